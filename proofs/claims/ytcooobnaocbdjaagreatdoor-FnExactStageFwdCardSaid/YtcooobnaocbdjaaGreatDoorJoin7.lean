import Derived.Test.YtcooobnaocbdjaaGreatDoorJoin3
import Derived.Test.YtcooobnaocbdjaaGreatDoorJoin4
import Derived.Test.YtcooobnaocbdjaaGreatDoorJoin1
import Derived.Test.YtcooobnaocbdjaaGreatDoorProg
import Derived.Test.YtcooobnaocbdjaaGreatDoorJoin2
import Derived.Shelf.Abstract
import Derived.Laws.EntriesVeiled
import Derived.OneCell
import Derived.Deep.QuietTactic
import Derived.BigQuiet
/-! YtcooobnaocbdjaaGreatDoorPOpM -/
section
set_option linter.unusedVariables false
namespace Go.Proofs.YtcooobnaocbdjaaGreatDoor
def opSz (k i o:Int):Int:=if inB 1 6 i && inB 1 6 o then (if k=1\/k=5 then i*o else if k=2 then i else if k=4 then 1 else 0) else 0
def Jz (k i o:Int) (ps:List Int):Bool:=inB 1 5 k && inB 1 6 i && inB 1 6 o && (decide (k=1) || decide (i=o)) && decide ((ps.length:Int)=opSz k i o) && ps.all okB
theorem Qin {k i o:Int} {ps:List Int} (h:Jz k i o ps=true) :
  ∃ m n:Nat,i=m/\o=n/\(1<=m/\m<=6)/\(1<=n/\n<=6)/\(k=1\/i=o)/\inB 1 5 k=true/\(ps.length:Int)=opSz k i o/\ps.all okB=true:=by
 unfold Jz at h
 simp only [Bool.and_eq_true,Bool.or_eq_true,decide_eq_true_eq] at h
 obtain ⟨⟨⟨⟨⟨h1,h2⟩,h3⟩,h4⟩,h5⟩,h6⟩:=h
 obtain ⟨a0,a1⟩:=Qa2 h2
 obtain ⟨b0,b1⟩:=Qa2 h3
 exact ⟨i.toNat,o.toNat,by omega,by omega,⟨by omega,by omega⟩,⟨by omega,by omega⟩,h4,h1,h5,h6⟩
theorem Qnr {k:Int} {m n:Nat} (hm:1<=m/\m<=6) (hn:1<=n/\n<=6):opSz k m n=(if k=1\/k=5 then (m:Int)*n else if k=2 then (m:Int) else if k=4 then 1 else 0):=by
 unfold opSz
 rw [Qbh (by omega) (by omega),Qbh (by omega) (by omega)]
 rfl
def fwOk (k i o:Int) (ps xs:List Int):Bool:=Jz k i o ps && Qm xs && decide ((xs.length:Int)=i)
def fwN (k i o:Int) (ps xs:List Int):List Int:=
 if fwOk k i o ps xs then (if k=1 then mvN o i ps xs else if k=2 then rowP addN xs ps else if k=3 then rowP (fun x _=>Qaq x) xs xs else if k=4 then Qas (ps.getD 0 0) xs else rowP addN xs (mvN o i ps xs)) else []
def fwB (k i o:Int) (ps xs:List Int):Bool:=
 fwOk k i o ps xs && (if k=1 then mvB o i ps xs else if k=2 then Qbi addB xs ps else if k=3 then false else if k=4 then Qbr (ps.getD 0 0) xs else mvB o i ps xs || Qbi addB xs (mvN o i ps xs))
def bwOk (k i o:Int) (ps xs ds:List Int):Bool:=fwOk k i o ps xs && Qm ds && decide ((ds.length:Int)=o)
def bwN (k i o:Int) (ps xs ds:List Int):List Int:=
 if bwOk k i o ps xs ds then (if k=1 then mbN o i ps ds else if k=2 then ds else if k=3 then rowP Qsi xs ds else if k=4 then Qas (ps.getD 0 0) ds else rowP addN ds (mbN o i ps ds)) else []
def bwG (k i o:Int) (ps xs ds:List Int):List Int:=
 if bwOk k i o ps xs ds then (if k=1\/k=5 then outN ds xs else if k=2 then ds else if k=4 then [dotN ds xs] else []) else []
def bwB (k i o:Int) (ps xs ds:List Int):Bool:=
 bwOk k i o ps xs ds && (if k=1 then mbB o i ps ds || outB ds xs else if k=2 then false else if k=3 then false else if k=4 then Qbr (ps.getD 0 0) ds || dotB ds xs else mbB o i ps ds || outB ds xs || Qbi addB ds (mbN o i ps ds))
def Qsk (k i o:Int) (ps:List Int):Int:=if Jz k i o ps then (if k=1\/k=5 then i*o else if k=4 then i else 0) else 0
def Qsl (k i o:Int) (ps:List Int) (k' i' o':Int) (qs:List Int):Bool:=decide (k=k') && (decide (i=i') && (decide (o=o') && decide (ps=qs)))
theorem Qfc {xs:List Int} {n:Nat} (hl:xs.length=n) (hn:1<=n/\n<=6) (h : ∀ j,j<n->okB (xs.getD j 0)=true):Qm xs=true:=
 Qgp (by omega) (by omega) fun j hj=>h j (by omega)
theorem Qhf:okB 0=true:=by decide
theorem Qqu (xs ys:List Int) (k:Nat):okB (dotK xs ys k)=true:=by
 cases k with
 | zero=>exact Qhf
 | succ k=>exact Qe5 _
theorem Qqv (xs ys:List Int):okB (dotN xs ys)=true:=by
 unfold dotN
 split
 ·exact Qqu _ _ _
 ·exact Qhf
theorem Qpf (x:Int):okB (Qaq x)=true:=by
 rcases (Qlr x).2 with h | h
 ·rw [h];exact Qhf
 ·rw [h];exact Qe5 _
theorem Qhg {f:Int->Int->Int} {xs ys:List Int} (hp:Jt xs ys=true) (h : ∀ j,j<xs.length->okB (f (xs.getD j 0) (ys.getD j 0))=true):(rowP f xs ys).length=xs.length/\Qm (rowP f xs ys)=true:=by
 obtain ⟨h1,h2,_⟩:=Qa1 hp
 obtain ⟨a,b,_⟩:=Q8 h1
 rw [Qbw f hp]
 refine ⟨Jc _ _ _ _,Qfc (Jc _ _ _ _) ⟨a,b⟩ fun j hj => ?_⟩
 rw [Qo7 _ _ _ _ _ hj]
 exact h j hj
theorem Qns {c:Int} {xs:List Int} (hc:okB c=true) (hx:Qm xs=true):(Qas c xs).length=xs.length/\Qm (Qas c xs)=true:=by
 unfold Qas
 rw [hc]
 exact Qhg (by rw [Qax];exact hx) fun j _=>Qe5 _
theorem Qrq {m n:Nat} {ps xs:List Int} (hm:1<=m/\m<=6) (hn:1<=n/\n<=6) (hl:ps.length=n*m) (ha:ps.all okB=true) (hx:Qm xs=true) (hxl:xs.length=m) :
  (mvN n m ps xs).length=n/\Qm (mvN n m ps xs)=true/\mvN n m ps xs=mapK (fun i=>dotN (J4 m ps i) xs) n/\mvB n m ps xs=anyK (fun i=>dotB (J4 m ps i) xs) n:=by
 have ho:mvOk n m ps xs=true:=by
  unfold mvOk
  rw [Qls hn hm hl ha,hx,decide_eq_true (by rw [hxl])]
  rfl
 have e:mvN n m ps xs=mapK (fun i=>dotN (J4 m ps i) xs) n:=by unfold mvN;rw [ho];rfl
 have e':mvB n m ps xs=anyK (fun i=>dotB (J4 m ps i) xs) n:=by unfold mvB;rw [ho];rfl
 have hlen:(mvN n m ps xs).length=n:=by rw [e,Qbx]
 exact ⟨hlen,Qfc hlen hn fun j hj=>by rw [e,Qo8 _ _ _ hj];exact Qqv _ _,e,e'⟩
theorem Qqw {k i o:Int} {ps xs:List Int} (h:fwOk k i o ps xs=true):((fwN k i o ps xs).length:Int)=o/\Qm (fwN k i o ps xs)=true:=by
 have hh:=h
 unfold fwOk at hh
 simp only [Bool.and_eq_true,decide_eq_true_eq] at hh
 obtain ⟨⟨hop,hx⟩,hxl⟩:=hh
 obtain ⟨m,n,rfl,rfl,hm,hn,hio,hk,hl,ha⟩:=Qin hop
 rw [Qnr hm hn] at hl
 have hxl':xs.length=m:=by exact_mod_cast hxl
 unfold fwN
 rw [h,if_pos rfl]
 by_cases k1:k=1
 ·subst k1
  rw [if_pos rfl]
  rw [if_pos (.inl rfl)] at hl
  have hl':ps.length=n*m:=by rw [Nat.mul_comm];exact_mod_cast hl
  obtain ⟨a,b,_⟩:=Qrq hm hn hl' ha hx hxl'
  exact ⟨by rw [a],b⟩
 ·have hmn:m=n:=by rcases hio with h | h;exact absurd h k1;exact_mod_cast h
  subst hmn
  rw [if_neg k1]
  by_cases k2:k=2
  ·subst k2
   rw [if_pos rfl]
   simp only [Int.reduceEq,or_self,if_false,if_true] at hl
   have hp:Jt xs ps=true:=by
    unfold Jt
    rw [hx,Qfc (by exact_mod_cast hl) hm fun j hj=>Qgq ha j (by omega),decide_eq_true (by omega)]
    rfl
   obtain ⟨a,b⟩:=Qhg (f:=addN) hp fun j _=>Qe5 _
   exact ⟨by rw [a];exact hxl,b⟩
  ·rw [if_neg k2]
   by_cases k3:k=3
   ·rw [if_pos k3]
    obtain ⟨a,b⟩:=Qhg (f:=fun x _=>Qaq x) (xs:=xs) (ys:=xs) (by rw [Qax];exact hx) fun j _=>Qpf _
    exact ⟨by rw [a];exact hxl,b⟩
   ·rw [if_neg k3]
    by_cases k4:k=4
    ·rw [if_pos k4]
     subst k4
     simp only [Int.reduceEq,or_self,if_false,if_true] at hl
     obtain ⟨a,b⟩:=Qns (c:=ps.getD 0 0) (Qgq ha 0 (by omega)) hx
     exact ⟨by rw [a];exact hxl,b⟩
    ·rw [if_neg k4]
     have k5:k=5:=by have:=Qa2 hk;omega
     subst k5
     simp only [Int.reduceEq,or_true,if_true] at hl
     have hl':ps.length=m*m:=by exact_mod_cast hl
     obtain ⟨a,b,_⟩:=Qrq hm hm hl' ha hx hxl'
     obtain ⟨c,d⟩:=Qhg (f:=addN) (xs:=xs) (ys:=mvN m m ps xs) (by unfold Jt;rw [hx,b,decide_eq_true (by omega)];rfl) fun j _=>Qe5 _
     exact ⟨by rw [c];exact hxl,d⟩
theorem Ql2 {k i o:Int} {ps xs:List Int} (h:fwOk k i o ps xs=false):fwN k i o ps xs=[]/\fwB k i o ps xs=false:=by
 unfold fwN fwB
 rw [h]
 exact ⟨rfl,rfl⟩
def Qd5 (n:Nat):List Int:=List.replicate n 0
def AllZ (xs:List Int):Prop:= ∀ j,xs.getD j 0=0
end Go.Proofs.YtcooobnaocbdjaaGreatDoor

end

/-! YtcooobnaocbdjaaGreatDoorPModM -/
section
set_option linter.unusedVariables false
namespace Go.Proofs.YtcooobnaocbdjaaGreatDoor
open Go.RowKit
def opAt (m:List dOp) (j:Nat):dOp:=m.getD j (0,0,0,[])
theorem Zf {m:List dOp} {j:Nat} {x:dOp} (h:m[j]? = some x):opAt m j=x:=by
 unfold opAt
 rw [List.getD_eq_getElem?_getD,h]
 rfl
def Ql3 (x:dOp):Bool:=Jz x.1 x.2.1 x.2.2.1 x.2.2.2
def okAt (m:List dOp) (j:Nat):Bool:=Ql3 (opAt m j) && (decide (j=0) || decide ((opAt m j).2.1=(opAt m (j-1)).2.2.1))
def Qt (m:List dOp):Bool:=(List.range m.length).all (okAt m) && inB 1 8 (m.length:Int)
theorem Qcd {p:Nat->Bool} {n:Nat} (h : ∀ j,j<n->p j=true):(List.range n).all p=true:=List.all_eq_true.2 fun j hj=>h j (List.mem_range.1 hj)
theorem Qbs {p:Nat->Bool} {n k:Nat} (hk:k<n) (h:p k=false):(List.range n).all p=false:=List.all_eq_false.2 ⟨k,List.mem_range.2 hk,by rw [h];decide⟩
theorem Qgu {m:List dOp} {k:Nat} (hk:k<m.length) (h:okAt m k=false):Qt m=false:=by
 unfold Qt
 rw [Qbs hk h]
 rfl
theorem Qj3 {m:List dOp} (h : ∀ j,j<m.length->okAt m j=true):Qt m=inB 1 8 (m.length:Int):=by
 unfold Qt
 rw [Qcd h]
 rfl
theorem Qk2 {m:List dOp} {k:Nat} {x:dOp} (hx:m[k]? = some x) (h:Ql3 x=false):okAt m k=false:=by
 unfold okAt
 rw [Zf hx,h]
 rfl
theorem Qio {m:List dOp} {x:dOp} (hx:m[0]? = some x) (h:Ql3 x=true):okAt m 0=true:=by
 unfold okAt
 rw [Zf hx,h]
 rfl
theorem Qip {m:List dOp} {k j:Nat} {x y:dOp} (hx:m[k]? = some x) (hy:m[j]? = some y) (hk:k=j+1) (h:Ql3 x=true):okAt m k=decide (x.2.1=y.2.2.1):=by
 subst hk
 unfold okAt
 rw [Zf hx,Nat.add_sub_cancel,Zf hy,h]
 simp
theorem Z4 {m:List dOp} (h:Qt m=true):(∀ j,j<m.length->okAt m j=true)/\1<=m.length/\m.length<=8:=by
 unfold Qt at h
 simp only [Bool.and_eq_true,List.all_eq_true,List.mem_range] at h
 have:=Qa2 h.2
 exact ⟨h.1,by omega,by omega⟩
def Qca (m:List dOp):Int:=if Qt m then (opAt m 0).2.1 else 0
def Qa6 (m:List dOp):Int:=if Qt m then (opAt m (m.length-1)).2.2.1 else 0
def Qsu (m:List dOp):Int:=if Qt m then (Shape.sum (fun (x:dOp)=>x.2.2.2.length) m:Nat) else 0
def Qqx (i o:Int) (p:Qhe):Bool:=Qm p.1 && Qm p.2 && decide ((p.1.length:Int)=i) && decide ((p.2.length:Int)=o)
def Qk3 (m:List dOp) (b:List Qhe):Bool:=Qt m && inB 1 5 (b.length:Int) && b.all (Qqx (Qca m) (Qa6 m))
def Qnt (a b:List dRow):Bool:=decide (a=b)
end Go.Proofs.YtcooobnaocbdjaaGreatDoor

end

/-! YtcooobnaocbdjaaGreatDoorPOpH -/
section
set_option linter.unusedVariables false
namespace Go.Proofs.YtcooobnaocbdjaaGreatDoor
open Go.RowKit
theorem Qs {w:World} {g:Nat} {x y z t:Value} {T:TypeId} (h:w.heap[g]? = some (.cells #[x,y,z,t] T (0,0))) :
  (w.cell? ⟨g,0,none⟩=some x/\w.cell? ⟨g,1,none⟩=some y/\w.cell? ⟨g,2,none⟩=some z/\w.cell? ⟨g,3,none⟩=some t)/\w.frozen? ⟨g,0,none⟩=false/\w.frozen? ⟨g,1,none⟩=false/\w.frozen? ⟨g,2,none⟩=false/\w.frozen? ⟨g,3,none⟩=false:=
 ⟨⟨by rw [cell_of_row _ _ _ _ _ _ h];rfl,by rw [cell_of_row _ _ _ _ _ _ h];rfl,by rw [cell_of_row _ _ _ _ _ _ h];rfl,by rw [cell_of_row _ _ _ _ _ _ h];rfl⟩,frozen_of_row w g 0 _ _ h,frozen_of_row w g 1 _ _ h,frozen_of_row w g 2 _ _ h,frozen_of_row w g 3 _ _ h⟩
end Go.Proofs.YtcooobnaocbdjaaGreatDoor

end

/-! YtcooobnaocbdjaaGreatDoorPSpecFix -/
section
set_option linter.unusedVariables false
namespace Go.Proofs.YtcooobnaocbdjaaGreatDoor
open Go.RowKit
theorem Qag (x lo hi:Int) (w:World) :
  Calls Tryz.prog 46 #[.int .i64 x,.int .i64 lo,.int .i64 hi] w fun e w'=>e = .returned (.bool (inB lo hi x))/\w=w':=by
 by_cases h1:x<lo
 ·have HD:=Lib.hid (Qcz (hi:=hi) (Or.inl h1))
  go_enter Tryz.func46,Tryz.ntmps46
  go_wp2
  go_ret
  exact ⟨by rw [HD.out] <;> rfl,rfl⟩
 ·by_cases h2:hi<x
  ·have HD:=Lib.hid (Qcz (lo:=lo) (Or.inr h2))
   have h3:decide (x<=hi)=false:=by simpa using h2
   go_enter Tryz.func46,Tryz.ntmps46
   go_wp2
   go_ret
   exact ⟨by rw [HD.out] <;> rfl,rfl⟩
  ·have h3:lo<=x:=by omega
   have h4:x<=hi:=by omega
   have HD:=Lib.hid (Qbh h3 h4)
   clear h1 h2
   go_enter Tryz.func46,Tryz.ntmps46
   go_wp2
   go_ret
   exact ⟨by rw [HD.out] <;> rfl,rfl⟩
theorem Qah (x:Int) (w:World) :
  Calls Tryz.prog 48 #[.int .i64 x] w fun e w'=>e = .returned (.bool (okB x))/\w=w':=by
 go_enter Tryz.func48,Tryz.ntmps48
 go_wp2_with fail
 refine (Qag x (-2147483647) 2147483647 _).mono ?_
 rintro e w1 ⟨rfl,rfl⟩
 go_wp2_with fail
 go_ret
 exact ⟨rfl,rfl⟩
theorem Qdo (x:Int) (w:World) :
  Calls Tryz.prog 170 #[.int .i64 x] w fun e w'=>e = .returned (.tuple #[.int .i64 (sat x),.bool (satB x)])/\w=w':=by
 by_cases h1:2147483647<x
 ·have HS:=Lib.hid (Qp6 h1)
  go_enter Tryz.func170,Tryz.ntmps170
  go_wp2
  go_ret2
  exact ⟨by rw [HS.out.1,HS.out.2] <;> rfl,rfl⟩
 ·by_cases h2:x < -2147483647
  ·have HS:=Lib.hid (Qp7 h2)
   go_enter Tryz.func170,Tryz.ntmps170
   go_wp2
   go_ret2
   exact ⟨by rw [HS.out.1,HS.out.2] <;> rfl,rfl⟩
  ·have HS:=Lib.hid (Qnc (x:=x) (by omega) (by omega))
   go_enter Tryz.func170,Tryz.ntmps170
   go_wp2
   go_ret2
   exact ⟨by rw [HS.out.1,HS.out.2] <;> rfl,rfl⟩
theorem Qbb (x:Int) (w:World) :
  Calls Tryz.prog 171 #[.int .i64 x] w fun e w'=>e = .returned (.int .i64 (sat x))/\w=w':=by
 go_enter Tryz.func171,Tryz.ntmps171
 go_wp2_with fail
 refine (Qdo x _).mono ?_
 rintro e w1 ⟨rfl,rfl⟩
 go_wp2_with fail
 go_ret
 exact ⟨rfl,rfl⟩
theorem Qj4 (x:Int) (w:World) (h0 : -4611686014132420609<=x) (h1:x<=4611686014132420609) :
  Calls Tryz.prog 292 #[.int .i64 x,.int .i64 65536] w fun e w'=>e = .returned (.int .i64 (x / 65536))/\w=w':=by
 by_cases h:0<=x
 ·have hlt:decide (x<0)=false:=by simp;omega
  go_enter Tryz.func292,Tryz.ntmps292
  go_wp2
  all_goals (go_ret;exact ⟨rfl,rfl⟩)
 ·have hx:x<0:=by omega
  have hlt:decide (x<0)=true:=by simp;omega
  by_cases hm:x.tmod 65536=0
  ·have HF:=Lib.hid (Qo5 hx hm)
   have hb:(x.tmod 65536 != 0)=false:=by rw [hm];rfl
   clear hm h
   go_enter Tryz.func292,Tryz.ntmps292
   go_wp2
   all_goals (go_ret;exact ⟨Qe2 HF.out,rfl⟩)
  ·have HF:=Lib.hid (Qo6 hx hm)
   have hb:(x.tmod 65536 != 0)=true:=by rw [bne_iff_ne];exact hm
   have q0 : -70368744177665<=x.tdiv 65536:=by rw [Qha hx];omega
   have q1:x.tdiv 65536<=0:=by rw [Qha hx];omega
   clear hm h
   go_enter Tryz.func292,Tryz.ntmps292
   go_wp2
   all_goals (go_ret;exact ⟨Qe2 HF.out,rfl⟩)
theorem Qbj (a b:Int) (w:World) :
  Calls Tryz.prog 76 #[.int .i64 a,.int .i64 b] w fun e w'=>e = .returned (.tuple #[.int .i64 (addN a b),.bool (addB a b)])/\w=w':=by
 obtain ⟨a0,a1⟩:=Zo a
 obtain ⟨b0,b1⟩:=Zo b
 go_enter Tryz.func76,Tryz.ntmps76
 go_wp2_with fail
 refine (Qbb a _).mono ?_
 rintro e w1 ⟨rfl,rfl⟩
 go_wp2_with fail
 refine (Qbb b _).mono ?_
 rintro e w2 ⟨rfl,rfl⟩
 go_wp2_with fail
 refine (Qdo (sat a+sat b) _).mono ?_
 rintro e w3 ⟨rfl,rfl⟩
 go_wp2_with fail
 go_ret2
 exact ⟨rfl,rfl⟩
theorem Qf0 (a b:Int) (w:World) :
  Calls Tryz.prog 181 #[.int .i64 a,.int .i64 b] w fun e w'=>e = .returned (.tuple #[.int .i64 (subN a b),.bool (subB a b)])/\w=w':=by
 obtain ⟨a0,a1⟩:=Zo a
 obtain ⟨b0,b1⟩:=Zo b
 go_enter Tryz.func181,Tryz.ntmps181
 go_wp2_with fail
 refine (Qbb a _).mono ?_
 rintro e w1 ⟨rfl,rfl⟩
 go_wp2_with fail
 refine (Qbb b _).mono ?_
 rintro e w2 ⟨rfl,rfl⟩
 go_wp2_with fail
 refine (Qdo (sat a-sat b) _).mono ?_
 rintro e w3 ⟨rfl,rfl⟩
 go_wp2_with fail
 go_ret2
 exact ⟨rfl,rfl⟩
theorem Qc1 (a b:Int) (w:World) :
  Calls Tryz.prog 248 #[.int .i64 a,.int .i64 b] w fun e w'=>e = .returned (.tuple #[.int .i64 (mulN a b),.bool (mulB a b)])/\w=w':=by
 obtain ⟨a0,a1⟩:=Zo a
 obtain ⟨b0,b1⟩:=Zo b
 obtain ⟨m0,m1⟩:=Qih a0 a1 b0 b1
 go_enter Tryz.func248,Tryz.ntmps248
 go_wp2_with fail
 refine (Qbb a _).mono ?_
 rintro e w1 ⟨rfl,rfl⟩
 go_wp2_with fail
 refine (Qbb b _).mono ?_
 rintro e w2 ⟨rfl,rfl⟩
 go_wp2_with fail
 refine (Qj4 (sat a*sat b) _ m0 m1).mono ?_
 rintro e w4 ⟨rfl,rfl⟩
 go_wp2_with fail
 refine (Qdo (sat a*sat b / 65536) _).mono ?_
 rintro e w3 ⟨rfl,rfl⟩
 go_wp2_with fail
 go_ret2
 exact ⟨rfl,rfl⟩
theorem Qiq (a:Int) (w:World) :
  Calls Tryz.prog 291 #[.int .i64 a] w fun e w'=>e = .returned (.int .i64 (Qaq a))/\w=w':=by
 obtain ⟨a0,a1⟩:=Zo a
 by_cases h:0<sat a
 ·have HR:Hid (Qaq a=sat a):=Lib.hid (if_pos h)
  go_enter Tryz.func291,Tryz.ntmps291
  go_wp2_with fail
  refine (Qbb a _).mono ?_
  rintro e w1 ⟨rfl,rfl⟩
  go_wp2_with fail
  all_goals (go_ret;exact ⟨Qe2 (by rw [HR.out] <;> omega),rfl⟩)
 ·have HR:Hid (Qaq a=0):=Lib.hid (if_neg h)
  go_enter Tryz.func291,Tryz.ntmps291
  go_wp2_with fail
  refine (Qbb a _).mono ?_
  rintro e w1 ⟨rfl,rfl⟩
  go_wp2_with fail
  all_goals (go_ret;exact ⟨Qe2 (by rw [HR.out] <;> omega),rfl⟩)
end Go.Proofs.YtcooobnaocbdjaaGreatDoor

end

/-! YtcooobnaocbdjaaGreatDoorPVecOk -/
section
set_option maxRecDepth 100000
set_option linter.unusedVariables false
namespace Go.Proofs.YtcooobnaocbdjaaGreatDoor
open Go.RowKit
theorem Qu (w:World) (a:Option Addr) (n c:Nat) (xs:List Int) (h:IntsIn w.heap.size w a n xs) :
  Calls Tryz.prog 11 #[.slice a n c] w fun e w'=>e = .returned (.bool (Qm xs))/\w=w':=by
 have hr:=h.room
 have H:=Lib.hid h
 clear h
 obtain ⟨d,hd⟩ : ∃ d,d=Qm xs:=⟨_,rfl⟩
 rw [<- hd]
 have HD:=Lib.hid hd
 clear hd
 go_enter Tryz.func11,Tryz.ntmps11
 go_wp2_with fail
 go_loop [3] (fun i => ∃ k:Nat,k<=n/\i = .int .i64 k/\Hid (∀ j,j<k->okB (xs.getD j 0)=true)) (fun i=>n-(intOf i).toNat)
 case atStart=>exact ⟨0,Nat.zero_le _,rfl,fun j hj=>absurd hj (Nat.not_lt_zero _)⟩
 case round =>
  obtain ⟨k,hk,rfl,hall⟩:=hrel
  by_cases hlt:k<n
  ·obtain ⟨b,o,rfl,hbB,hcell⟩:=H.out.cells k hlt
   obtain ⟨X,hX⟩ : ∃ X,X=xs.getD k 0:=⟨_,rfl⟩
   rw [<- hX] at hcell
   have HX:=Lib.hid hX
   clear hX
   obtain ⟨o',ho⟩ : ∃ o',okB X=o':=⟨_,rfl⟩
   have HS:=Lib.hid (fun w=>Qah X w)
   rw [ho] at HS
   have HO:=Lib.hid ho
   clear ho
   cases o'
   ·have hdf:d=false:=by rw [HD.out];exact Qij (by rw [H.out.len];exact hlt) (by rw [<- HX.out];exact HO.out)
    subst hdf
    go_wp2_with fail
    refine (HS.out _).mono ?_
    rintro e w' ⟨rfl,rfl⟩
    go_wp2_with fail
    go_ret
    exact ⟨rfl,rfl⟩
   ·go_wp2_with fail
    refine (HS.out _).mono ?_
    rintro e w' ⟨rfl,rfl⟩
    go_wp2_with fail
    go_round
    case rel =>
     refine ⟨k+1,by omega,by go_num,show Hid _ from fun j hj => ?_⟩
     by_cases e:j=k
     ·subst e;rw [<- HX.out];exact HO.out
     ·exact hall.out j (by omega)
    case measure=>simp [intOf];omega
  ·have hkn:k=n:=by omega
   subst hkn
   have hdd:inB 1 6 (k:Int)=d:=by
    rw [HD.out]
    have hl:=H.out.len
    by_cases h0:1<=k
    ·by_cases h6:k<=6
     ·rw [Qbh (by omega) (by omega),Qgp (by omega) (by omega) (fun j hj=>hall.out j (by omega))]
     ·rw [Qcz (by omega),Qgo (by omega)]
    ·rw [Qcz (by omega),Qgo (by omega)]
   have HE:=Lib.hid hdd
   clear hdd
   go_wp2_with fail
   refine (Qag _ _ _ _).mono ?_
   rintro e w' ⟨rfl,rfl⟩
   go_wp2_with fail
   go_ret
   exact ⟨by rw [HE.out] <;> rfl,rfl⟩
theorem Jl (n:Int) (w:World) :
  Calls Tryz.prog 225 #[.int .i64 n] w fun e w'=>e = .returned (.bool (inB 1 6 n))/\w=w':=by
 by_cases h1:n<1
 ·have HD:=Lib.hid (Qcz (lo:=1) (hi:=6) (Or.inl h1))
  have h2:decide (1<=n)=false:=by simpa using h1
  go_enter Tryz.func225,Tryz.ntmps225
  go_wp2
  go_ret
  exact ⟨by rw [HD.out] <;> rfl,rfl⟩
 ·by_cases h2:6<n
  ·have HD:=Lib.hid (Qcz (lo:=1) (hi:=6) (Or.inr h2))
   have h3:decide (n<=6)=false:=by simpa using h2
   go_enter Tryz.func225,Tryz.ntmps225
   go_wp2
   go_ret
   exact ⟨by rw [HD.out] <;> rfl,rfl⟩
  ·have h3:1<=n:=by omega
   have h4:n<=6:=by omega
   have HD:=Lib.hid (Qbh h3 h4)
   clear h1 h2
   go_enter Tryz.func225,Tryz.ntmps225
   go_wp2
   go_ret
   exact ⟨by rw [HD.out] <;> rfl,rfl⟩
theorem Qrr {xs:List Int} {k:Nat} (hk:k<xs.length) (h:okB (xs.getD k 0)=false):xs.all okB=false:=by
 have h1:xs.getD k 0∈xs:=by simp [List.getD,hk]
 exact List.all_eq_false.2 ⟨_,h1,by rw [h];decide⟩
theorem Qqy {xs:List Int} (h : ∀ j,j<xs.length->okB (xs.getD j 0)=true):xs.all okB=true:=by
 refine List.all_eq_true.2 fun x hx => ?_
 obtain ⟨j,hj,rfl⟩:=List.mem_iff_getElem.1 hx
 have:=h j hj
 simpa [List.getD,hj] using this
theorem Qb1 (w:World) (a:Option Addr) (n c:Nat) (xs:List Int) (h:IntsIn w.heap.size w a n xs) :
  Calls Tryz.prog 226 #[.slice a n c] w fun e w'=>e = .returned (.bool (xs.all okB))/\w=w':=by
 have hr:=h.room
 have H:=Lib.hid h
 clear h
 obtain ⟨d,hd⟩ : ∃ d,d=xs.all okB:=⟨_,rfl⟩
 rw [<- hd]
 have HD:=Lib.hid hd
 clear hd
 go_enter Tryz.func226,Tryz.ntmps226
 go_wp2_with fail
 go_loop [7] (fun i => ∃ k:Nat,k<=n/\i = .int .i64 k/\Hid (∀ j,j<k->okB (xs.getD j 0)=true)) (fun i=>n-(intOf i).toNat)
 case atStart=>exact ⟨0,Nat.zero_le _,rfl,fun j hj=>absurd hj (Nat.not_lt_zero _)⟩
 case round =>
  obtain ⟨k,hk,rfl,hall⟩:=hrel
  by_cases hlt:k<n
  ·obtain ⟨b,o,rfl,hbB,hcell⟩:=H.out.cells k hlt
   obtain ⟨X,hX⟩ : ∃ X,X=xs.getD k 0:=⟨_,rfl⟩
   rw [<- hX] at hcell
   have HX:=Lib.hid hX
   clear hX
   obtain ⟨o',ho⟩ : ∃ o',okB X=o':=⟨_,rfl⟩
   have HS:=Lib.hid (fun w=>Qdh X w)
   rw [ho] at HS
   have HO:=Lib.hid ho
   clear ho
   cases o'
   ·have hdf:d=false:=by rw [HD.out];exact Qrr (by rw [H.out.len];exact hlt) (by rw [<- HX.out];exact HO.out)
    subst hdf
    go_wp2_with fail
    refine (HS.out _).mono ?_
    rintro e w' ⟨rfl,rfl⟩
    go_wp2_with fail
    go_ret
    exact ⟨rfl,rfl⟩
   ·go_wp2_with fail
    refine (HS.out _).mono ?_
    rintro e w' ⟨rfl,rfl⟩
    go_wp2_with fail
    go_round
    case rel =>
     refine ⟨k+1,by omega,by go_num,show Hid _ from fun j hj => ?_⟩
     by_cases e:j=k
     ·subst e;rw [<- HX.out];exact HO.out
     ·exact hall.out j (by omega)
    case measure=>simp [intOf];omega
  ·have hkn:k=n:=by omega
   subst hkn
   have hdt:d=true:=by
    rw [HD.out]
    have hl:=H.out.len
    exact Qqy (fun j hj=>hall.out j (by omega))
   subst hdt
   go_wp2_with fail
   go_ret
   exact ⟨rfl,rfl⟩
theorem Qir {xs:List Int} {n:Nat} (hl:xs.length=n):Qm xs=(inB 1 6 (n:Int) && xs.all okB):=by
 unfold Qm inB
 rw [hl]
 by_cases h0:1<=n
 ·by_cases h6:n<=6
  ·rw [decide_eq_true h0,decide_eq_true h6,decide_eq_true (by omega:(1:Int)<=(n:Int)/\(n:Int)<=6)];rfl
  ·rw [decide_eq_true h0,decide_eq_false h6,decide_eq_false (by omega : ¬ ((1:Int)<=(n:Int)/\(n:Int)<=6))];rfl
 ·rw [decide_eq_false h0,decide_eq_false (by omega : ¬ ((1:Int)<=(n:Int)/\(n:Int)<=6))];simp
theorem Qv (w:World) (a:Option Addr) (n c:Nat) (xs:List Int) (h:IntsIn w.heap.size w a n xs) :
  Calls Tryz.prog 142 #[.slice a n c] w fun e w'=>e = .returned (.bool (Qm xs))/\w=w':=by
 have hr:=h.room
 rw [Qir h.len]
 have HA:=Lib.hid (Qb1 w a n c xs h)
 have HN:=Lib.hid (fun w=>Jl (n:Int) w)
 obtain ⟨q,hq⟩ : ∃ q,xs.all okB=q:=⟨_,rfl⟩
 obtain ⟨p,hp⟩ : ∃ p,inB 1 6 (n:Int)=p:=⟨_,rfl⟩
 rw [hq] at HA |-
 rw [hp] at HN |-
 clear hq hp h
 cases p
 ·go_enter Tryz.func142,Tryz.ntmps142
  go_wp2_with fail
  refine (HN.out _).mono ?_
  rintro e w' ⟨rfl,rfl⟩
  go_wp2_with fail
  go_ret
  exact ⟨rfl,rfl⟩
 ·go_enter Tryz.func142,Tryz.ntmps142
  go_wp2_with fail
  refine (HN.out _).mono ?_
  rintro e w' ⟨rfl,rfl⟩
  go_wp2_with fail
  refine HA.out.mono ?_
  rintro e w' ⟨rfl,rfl⟩
  go_wp2_with fail
  go_ret
  exact ⟨by simp,rfl⟩
theorem Qay (w:World) (a1:Option Addr) (n1 c1:Nat) (xs:List Int) (a2:Option Addr) (n2 c2:Nat) (ys:List Int) (h1:IntsIn w.heap.size w a1 n1 xs) (h2:IntsIn w.heap.size w a2 n2 ys) :
  Calls Tryz.prog 180 #[.slice a1 n1 c1,.slice a2 n2 c2] w fun e w'=>e = .returned (.bool (Jt xs ys))/\w=w':=by
 have S1:=Qu w a1 n1 c1 xs h1
 have S2:=Qu w a2 n2 c2 ys h2
 obtain ⟨p,hp⟩ : ∃ p,Qm xs=p:=⟨_,rfl⟩
 obtain ⟨q,hq⟩ : ∃ q,Qm ys=q:=⟨_,rfl⟩
 have hd:Jt xs ys=(p && q && decide ((n1:Int)=(n2:Int))):=by
  unfold Jt
  rw [hp,hq,h1.len,h2.len]
  congr 1
  exact decide_eq_decide.2 (by omega)
 rw [hd]
 rw [hp] at S1
 rw [hq] at S2
 have H1:=Lib.hid S1
 have H2:=Lib.hid S2
 clear hd hp hq S1 S2 h1 h2
 cases p
 ·go_enter Tryz.func180,Tryz.ntmps180
  go_wp2_with fail
  refine H1.out.mono ?_
  rintro e w' ⟨rfl,rfl⟩
  go_wp2_with fail
  go_ret
  exact ⟨rfl,rfl⟩
 ·cases q
  ·go_enter Tryz.func180,Tryz.ntmps180
   go_wp2_with fail
   refine H1.out.mono ?_
   rintro e w' ⟨rfl,rfl⟩
   go_wp2_with fail
   refine H2.out.mono ?_
   rintro e w' ⟨rfl,rfl⟩
   go_wp2_with fail
   go_ret
   exact ⟨rfl,rfl⟩
  ·by_cases hn:n1=n2
   ·subst hn
    go_enter Tryz.func180,Tryz.ntmps180
    go_wp2_with fail
    refine H1.out.mono ?_
    rintro e w' ⟨rfl,rfl⟩
    go_wp2_with fail
    refine H2.out.mono ?_
    rintro e w' ⟨rfl,rfl⟩
    go_wp2_with fail
    go_ret
    exact ⟨by simp,rfl⟩
   ·have hne:((n1:Int) == (n2:Int))=false:=by rw [beq_eq_false_iff_ne];omega
    have hdd:decide ((n1:Int)=(n2:Int))=false:=decide_eq_false (by omega)
    go_enter Tryz.func180,Tryz.ntmps180
    go_wp2_with fail
    refine H1.out.mono ?_
    rintro e w' ⟨rfl,rfl⟩
    go_wp2_with fail
    refine H2.out.mono ?_
    rintro e w' ⟨rfl,rfl⟩
    go_wp2_with fail
    go_ret
    exact ⟨by simp [hdd],rfl⟩
end Go.Proofs.YtcooobnaocbdjaaGreatDoor

end

/-! YtcooobnaocbdjaaGreatDoorPThrough -/
section
set_option maxRecDepth 100000
set_option linter.unusedVariables false
namespace Go.Proofs.YtcooobnaocbdjaaGreatDoor
open Go.RowKit
theorem Row.put {base:Nat} {w w':World} {v v':Value} {zs:List Int} {x:Int} (hrow:Row base w v zs) (hb:base<=w.heap.size) (o:Obj) (hown:w'.ownsRow base 3 1 v' (zs.length+1) (Qp zs ++ Qp [x])) (hg:(w.alloc o).grownBy w' v.ownBlock) :
  Row base w' v' (zs ++ [x])/\Below base w w':=by
 refine ⟨?_,((Below.refl base w).alloc hb o).grown hg (by simp;omega) (fun k hk=>(hrow.lt k hk).1)⟩
 unfold Row
 rw [Qau]
 simpa using hown
theorem Z9 (w:World) (e:TypeId) (x:Int) : ∀ j u,(Qp [x])[j]? = some u->(w.alloc (.cells #[.int .i64 x] e)).cell? ((⟨w.heap.size,0,none⟩:Addr).add j)=some u:=by
 intro j u hu
 rw [Addr.add_lit,Nat.zero_add,cell_of_row _ _ _ _ _ _ (heap_alloc_new w _)]
 simpa [Qp] using hu
theorem Jf (l:List Int) : ∀ u∈Qp l,u.oneCell'=true:=by
 intro u hu
 obtain ⟨_,_,rfl⟩:=List.mem_map.1 hu
 rfl
theorem Qhh (w:World) (a1:Option Addr) (n1 c1:Nat) (xs:List Int) (a2:Option Addr) (n2 c2:Nat) (ys:List Int) (f:Value) (h1:IntsIn w.heap.size w a1 n1 xs) (h2:IntsIn w.heap.size w a2 n2 ys) (hp:Jt xs ys=false) :
  Calls Tryz.prog 284 #[.slice a1 n1 c1,.slice a2 n2 c2,.slice none 0 0,f] w fun e w'=>e = .returned (.tuple #[.slice none 0 0,.bool false])/\w=w':=by
 have S1:=Qv w a1 n1 c1 xs h1
 have S2:=Qv w a2 n2 c2 ys h2
 unfold Jt at hp
 rw [h1.len,h2.len] at hp
 obtain ⟨p,hp'⟩ : ∃ p,Qm xs=p:=⟨_,rfl⟩
 obtain ⟨q,hq⟩ : ∃ q,Qm ys=q:=⟨_,rfl⟩
 rw [hp'] at S1 hp
 rw [hq] at S2 hp
 have H1:=Lib.hid S1
 have H2:=Lib.hid S2
 have HP:=Lib.hid hp
 clear hp' hq S1 S2 h1 h2 hp
 cases p
 ·go_enter Tryz.func284,Tryz.ntmps284
  go_wp2_with fail
  refine H1.out.mono ?_
  rintro e w' ⟨rfl,rfl⟩
  go_wp2_with fail
  go_ret2
  exact ⟨rfl,rfl⟩
 ·cases q
  ·go_enter Tryz.func284,Tryz.ntmps284
   go_wp2_with fail
   refine H1.out.mono ?_
   rintro e w' ⟨rfl,rfl⟩
   go_wp2_with fail
   refine H2.out.mono ?_
   rintro e w' ⟨rfl,rfl⟩
   go_wp2_with fail
   go_ret2
   exact ⟨rfl,rfl⟩
  ·have hne:((n1:Int) == (n2:Int))=false:=by
    have:=HP.out
    simp only [Bool.and_self,Bool.true_and,decide_eq_false_iff_not] at this
    rw [beq_eq_false_iff_ne]
    omega
   go_enter Tryz.func284,Tryz.ntmps284
   go_wp2_with fail
   refine H1.out.mono ?_
   rintro e w' ⟨rfl,rfl⟩
   go_wp2_with fail
   refine H2.out.mono ?_
   rintro e w' ⟨rfl,rfl⟩
   go_wp2_with fail
   go_ret2
   exact ⟨rfl,rfl⟩
theorem Qf1 (w:World) (a1:Option Addr) (n c1:Nat) (xs:List Int) (a2:Option Addr) (c2:Nat) (ys:List Int) (g:Nat) (lb:Array Value) (F:Int->Int->Int) (G:Int->Int->Bool)
  (eg : ∀ args w,(callFunc g args).run Tryz.prog w = .ok (.enter g args) w)
  (hstep : ∀ (wr:World) (v:Value) (zs:List Int) (x y:Int),Below w.heap.size w wr->Row w.heap.size wr v zs->zs.length<=6->Calls Tryz.prog g (#[v,.int .i64 x,.int .i64 y] ++ lb) wr fun e w' => ∃ v',e = .returned (.tuple #[v',.bool (G x y)])/\Row w.heap.size w' v' (zs ++ [F x y])/\Below w.heap.size wr w')
  (h1:IntsIn w.heap.size w a1 n xs) (h2:IntsIn w.heap.size w a2 n ys) (hp:Qm xs=true) (hq:Qm ys=true) :
  Calls Tryz.prog 284 #[.slice a1 n c1,.slice a2 n c2,.slice none 0 0,.func (.func g) #[] lb] w fun e w' =>
   ∃ v,e = .returned (.tuple #[v,.bool (Qa9 G xs ys n)])/\Row w.heap.size w' v (rowK F xs ys n)/\Below w.heap.size w w':=by
 have S1:=Qv w a1 n c1 xs h1
 have S2:=Qv w a2 n c2 ys h2
 rw [hp] at S1
 rw [hq] at S2
 have hn6:=(Q8 hp).2.1
 rw [h1.len] at hn6
 have H1:=Lib.hid S1
 have H2:=Lib.hid S2
 have HX:=Lib.hid h1
 have HY:=Lib.hid h2
 have HS:=Lib.hid hstep
 clear hp hq S1 S2 h1 h2 hstep
 go_enter Tryz.func284,Tryz.ntmps284
 go_wp2_with fail
 refine H1.out.mono ?_
 rintro e w' ⟨rfl,rfl⟩
 go_wp2_with fail
 refine H2.out.mono ?_
 rintro e w' ⟨rfl,rfl⟩
 go_wp2_with fail
 go_loopw [11,12,35] (fun m o i wr => ∃ k:Nat,k<=n/\i = .int .i64 k/\o = .bool (Qa9 G xs ys k)/\Row w.heap.size wr m (rowK F xs ys k)/\Below w.heap.size w wr) (fun _ _ i _=>n-(intOf i).toNat)
 case atStart=>exact ⟨0,Nat.zero_le _,rfl,rfl,Row.nil _ _,Below.refl _ _⟩
 case round =>
  obtain ⟨k,hk,rfl,rfl,hrow,hb⟩:=hrel
  have HR:=Lib.hid hrow
  have HB:=Lib.hid hb
  clear hrow hb
  by_cases hlt:k<n
  ·obtain ⟨b,o,rfl,hbB,hcell0⟩:=HX.out.cells k hlt
   obtain ⟨b',o',rfl,hbB',hcell0'⟩:=HY.out.cells k hlt
   obtain ⟨X,hX⟩ : ∃ X,X=xs.getD k 0:=⟨_,rfl⟩
   obtain ⟨Y,hY⟩ : ∃ Y,Y=ys.getD k 0:=⟨_,rfl⟩
   rw [<- hX] at hcell0
   rw [<- hY] at hcell0'
   have hcell:=(HB.out.cell (p:=⟨b,o+k,none⟩) hbB).trans hcell0
   have hcell':=(HB.out.cell (p:=⟨b',o'+k,none⟩) hbB').trans hcell0'
   obtain ⟨fl,hfl⟩ : ∃ fl,Qa9 G xs ys k=fl:=⟨_,rfl⟩
   obtain ⟨go,hgo⟩ : ∃ go,G X Y=go:=⟨_,rfl⟩
   have hT:=HS.out wr _ (rowK F xs ys k) X Y HB.out HR.out (by rw [Jc];omega)
   rw [hgo] at hT
   have HT:=Lib.hid hT
   have e1:Qa9 G xs ys (k+1)=(fl || go):=by rw [Qa9,hfl,<- hX,<- hY,hgo]
   have e2:rowK F xs ys (k+1)=rowK F xs ys k ++ [F X Y]:=by rw [rowK,<- hX,<- hY]
   have E1:=Lib.hid e1
   have E2:=Lib.hid e2
   rw [hfl]
   clear hX hY hcell0 hcell0' hfl hgo hT e1 e2
   cases fl
   ·go_wp2_with fail
    refine HT.out.mono ?_
    rintro e w' ⟨v',rfl,hrow',hb'⟩
    go_wp2_with fail
    go_roundw
    case rel=>exact ⟨k+1,by omega,by go_num,by rw [E1.out];rfl,by rw [E2.out];exact hrow',HB.out.trans hb'⟩
    case measure=>simp [intOf];omega
   ·go_wp2_with fail
    refine HT.out.mono ?_
    rintro e w' ⟨v',rfl,hrow',hb'⟩
    go_wp2_with fail
    go_roundw
    case rel=>exact ⟨k+1,by omega,by go_num,by rw [E1.out];rfl,by rw [E2.out];exact hrow',HB.out.trans hb'⟩
    case measure=>simp [intOf];omega
  ·have hkn:k=n:=by omega
   subst hkn
   go_wp2_with fail
   go_ret2
   exact ⟨_,rfl,HR.out,HB.out⟩
theorem Qhi (w:World) (a1:Option Addr) (n1 c1:Nat) (xs:List Int) (a2:Option Addr) (n2 c2:Nat) (ys:List Int) (f:Value) (h1:IntsIn w.heap.size w a1 n1 xs) (h2:IntsIn w.heap.size w a2 n2 ys) (hp:Jt xs ys=false) :
  Calls Tryz.prog 279 #[.slice a1 n1 c1,.slice a2 n2 c2,.int .i64 0,f] w fun e w'=>e = .returned (.tuple #[.int .i64 0,.bool false])/\w=w':=by
 have S1:=Qv w a1 n1 c1 xs h1
 have S2:=Qv w a2 n2 c2 ys h2
 unfold Jt at hp
 rw [h1.len,h2.len] at hp
 obtain ⟨p,hp'⟩ : ∃ p,Qm xs=p:=⟨_,rfl⟩
 obtain ⟨q,hq⟩ : ∃ q,Qm ys=q:=⟨_,rfl⟩
 rw [hp'] at S1 hp
 rw [hq] at S2 hp
 have H1:=Lib.hid S1
 have H2:=Lib.hid S2
 have HP:=Lib.hid hp
 clear hp' hq S1 S2 h1 h2 hp
 cases p
 ·go_enter Tryz.func279,Tryz.ntmps279
  go_wp2_with fail
  refine H1.out.mono ?_
  rintro e w' ⟨rfl,rfl⟩
  go_wp2_with fail
  go_ret2
  exact ⟨rfl,rfl⟩
 ·cases q
  ·go_enter Tryz.func279,Tryz.ntmps279
   go_wp2_with fail
   refine H1.out.mono ?_
   rintro e w' ⟨rfl,rfl⟩
   go_wp2_with fail
   refine H2.out.mono ?_
   rintro e w' ⟨rfl,rfl⟩
   go_wp2_with fail
   go_ret2
   exact ⟨rfl,rfl⟩
  ·have hne:((n1:Int) == (n2:Int))=false:=by
    have:=HP.out
    simp only [Bool.and_self,Bool.true_and,decide_eq_false_iff_not] at this
    rw [beq_eq_false_iff_ne]
    omega
   go_enter Tryz.func279,Tryz.ntmps279
   go_wp2_with fail
   refine H1.out.mono ?_
   rintro e w' ⟨rfl,rfl⟩
   go_wp2_with fail
   refine H2.out.mono ?_
   rintro e w' ⟨rfl,rfl⟩
   go_wp2_with fail
   go_ret2
   exact ⟨rfl,rfl⟩
theorem Qf2 (w:World) (a1:Option Addr) (n c1:Nat) (xs:List Int) (a2:Option Addr) (c2:Nat) (ys:List Int) (g:Nat) (lb:Array Value) (F:Int->Int->Int->Int) (G:Int->Int->Int->Bool)
  (eg : ∀ args w,(callFunc g args).run Tryz.prog w = .ok (.enter g args) w)
  (hstep : ∀ (wr:World) (s x y:Int),Below w.heap.size w wr->Calls Tryz.prog g (#[.int .i64 s,.int .i64 x,.int .i64 y] ++ lb) wr fun e w'=>e = .returned (.tuple #[.int .i64 (F s x y),.bool (G s x y)])/\Below w.heap.size wr w')
  (h1:IntsIn w.heap.size w a1 n xs) (h2:IntsIn w.heap.size w a2 n ys) (hp:Qm xs=true) (hq:Qm ys=true) :
  Calls Tryz.prog 279 #[.slice a1 n c1,.slice a2 n c2,.int .i64 0,.func (.func g) #[] lb] w fun e w' =>
   e = .returned (.tuple #[.int .i64 (sumK F xs ys n),.bool (Qj0 F G xs ys n)])/\Below w.heap.size w w':=by
 have S1:=Qv w a1 n c1 xs h1
 have S2:=Qv w a2 n c2 ys h2
 rw [hp] at S1
 rw [hq] at S2
 have hn6:=(Q8 hp).2.1
 rw [h1.len] at hn6
 have H1:=Lib.hid S1
 have H2:=Lib.hid S2
 have HX:=Lib.hid h1
 have HY:=Lib.hid h2
 have HS:=Lib.hid hstep
 clear hp hq S1 S2 h1 h2 hstep
 go_enter Tryz.func279,Tryz.ntmps279
 go_wp2_with fail
 refine H1.out.mono ?_
 rintro e w' ⟨rfl,rfl⟩
 go_wp2_with fail
 refine H2.out.mono ?_
 rintro e w' ⟨rfl,rfl⟩
 go_wp2_with fail
 go_loopw [11,12,35] (fun m o i wr => ∃ k:Nat,k<=n/\i = .int .i64 k/\m = .int .i64 (sumK F xs ys k)/\o = .bool (Qj0 F G xs ys k)/\Below w.heap.size w wr) (fun _ _ i _=>n-(intOf i).toNat)
 case atStart=>exact ⟨0,Nat.zero_le _,rfl,rfl,rfl,Below.refl _ _⟩
 case round =>
  obtain ⟨k,hk,rfl,rfl,rfl,hb⟩:=hrel
  have HB:=Lib.hid hb
  clear hb
  by_cases hlt:k<n
  ·obtain ⟨b,o,rfl,hbB,hcell0⟩:=HX.out.cells k hlt
   obtain ⟨b',o',rfl,hbB',hcell0'⟩:=HY.out.cells k hlt
   obtain ⟨X,hX⟩ : ∃ X,X=xs.getD k 0:=⟨_,rfl⟩
   obtain ⟨Y,hY⟩ : ∃ Y,Y=ys.getD k 0:=⟨_,rfl⟩
   rw [<- hX] at hcell0
   rw [<- hY] at hcell0'
   have hcell:=(HB.out.cell (p:=⟨b,o+k,none⟩) hbB).trans hcell0
   have hcell':=(HB.out.cell (p:=⟨b',o'+k,none⟩) hbB').trans hcell0'
   obtain ⟨sk,hsk⟩ : ∃ sk,sumK F xs ys k=sk:=⟨_,rfl⟩
   obtain ⟨fl,hfl⟩ : ∃ fl,Qj0 F G xs ys k=fl:=⟨_,rfl⟩
   obtain ⟨sn,hsn⟩ : ∃ sn,F sk X Y=sn:=⟨_,rfl⟩
   obtain ⟨go,hgo⟩ : ∃ go,G sk X Y=go:=⟨_,rfl⟩
   have hT:=HS.out wr sk X Y HB.out
   rw [hgo,hsn] at hT
   have HT:=Lib.hid hT
   have e1:Qj0 F G xs ys (k+1)=(fl || go):=by rw [Qj0,hfl,hsk,<- hX,<- hY,hgo]
   have e2:sumK F xs ys (k+1)=sn:=by rw [sumK,hsk,<- hX,<- hY,hsn]
   have E1:=Lib.hid e1
   have E2:=Lib.hid e2
   rw [hfl,hsk]
   clear hX hY hcell0 hcell0' hfl hgo hsk hsn hT e1 e2
   cases fl
   ·go_wp2_with fail
    refine HT.out.mono ?_
    rintro e w' ⟨rfl,hb'⟩
    go_wp2_with fail
    go_roundw
    case rel=>exact ⟨k+1,by omega,by go_num,by rw [E2.out],by rw [E1.out];rfl,HB.out.trans hb'⟩
    case measure=>simp [intOf];omega
   ·go_wp2_with fail
    refine HT.out.mono ?_
    rintro e w' ⟨rfl,hb'⟩
    go_wp2_with fail
    go_roundw
    case rel=>exact ⟨k+1,by omega,by go_num,by rw [E2.out],by rw [E1.out];rfl,HB.out.trans hb'⟩
    case measure=>simp [intOf];omega
  ·have hkn:k=n:=by omega
   subst hkn
   go_wp2_with fail
   go_ret2
   exact ⟨rfl,HB.out⟩
theorem Qpg (base D:Nat) (w:World) (v:Value) (zs:List Int) (x y f:Int) (o:Bool) (g:Nat) (lb:Array Value) (eg : ∀ args w,(callFunc g args).run Tryz.prog w = .ok (.enter g args) w)
  (hD:w.cell? ⟨D,0,none⟩=some (.func (.func g) #[] lb)) (hbase:base<=w.heap.size) (hrow:Row base w v zs) (hz:zs.length<=6)
  (hdo:Calls Tryz.prog g (#[.int .i64 x,.int .i64 y] ++ lb) w fun e w'=>e = .returned (.tuple #[.int .i64 f,.bool o])/\Below w.heap.size w w') :
  Calls Tryz.prog 285 #[v,.int .i64 x,.int .i64 y,.pointer (some ⟨D,0,none⟩)] w fun e w' => ∃ v',e = .returned (.tuple #[v',.bool o])/\Row base w' v' (zs ++ [f])/\Below base w w':=by
 obtain ⟨i0,hi,hz0,hz1,hz2⟩:=info_parts Tryz.infoI64
 have HR:=Lib.hid hrow
 have HDO:=Lib.hid hdo
 clear hrow hdo
 go_enter Tryz.func285,Tryz.ntmps285
 go_wp2_with fail
 refine HDO.out.mono ?_
 rintro e w1 ⟨rfl,hb1⟩
 have hs1:=hb1.size
 have hr1:=HR.out.below hb1
 have hown:w1.ownsRow base 3 1 v zs.length (Qp zs):=hr1
 have HR1:=Lib.hid hr1
 clear hr1
 go_wp2_with (at_builtin;refine wpList_append_own _ rfl _ _ 28 rfl base 3 i0 (.int .i64 0) 1 8 Tryz.underlying28 hi hz0 hz1 hz2 rfl (by decide) _ _ _ rfl (hown.alloc _) ⟨w1.heap.size,0,none⟩ 1 1 (Qp [f]) rfl rfl (Z9 _ _ _) (Jf _) (by unfold maxLen;omega) (by omega) (by simp;omega) ?_;intro v' w2 hown' hgrow _)
 have hput:=HR1.out.put (by omega) _ hown' hgrow
 clear hown' hgrow hown
 go_wp2_with fail
 go_ret2
 exact ⟨_,rfl,hput.1,(hb1.mono hbase).trans hput.2⟩
theorem Qqz : ∀ args w,(callFunc 285 args).run Tryz.prog w = .ok (.enter 285 args) w:=enters_of Tryz.func285 (by kernel_rfl) rfl
theorem Qbc (w:World) (a1:Option Addr) (n1 c1:Nat) (xs:List Int) (a2:Option Addr) (n2 c2:Nat) (ys:List Int) (g:Nat) (lb:Array Value) (F:Int->Int->Int) (G:Int->Int->Bool)
  (eg : ∀ args w,(callFunc g args).run Tryz.prog w = .ok (.enter g args) w)
  (hdo : ∀ (wr:World) (x y:Int),Below w.heap.size w wr->Calls Tryz.prog g (#[.int .i64 x,.int .i64 y] ++ lb) wr fun e w'=>e = .returned (.tuple #[.int .i64 (F x y),.bool (G x y)])/\Below wr.heap.size wr w')
  (h1:IntsIn w.heap.size w a1 n1 xs) (h2:IntsIn w.heap.size w a2 n2 ys) :
  Calls Tryz.prog 237 #[.slice a1 n1 c1,.slice a2 n2 c2,.func (.func g) #[] lb] w fun e w' =>
   ∃ v,e = .returned (.tuple #[v,.bool (Qbi G xs ys)])/\Row w.heap.size w' v (rowP F xs ys)/\Below w.heap.size w w':=by
 have hal:Below w.heap.size w (w.alloc (.cells #[.func (.func g) #[] lb] 123)):=(Below.refl _ _).alloc (Nat.le_refl _) _
 have k1:=(h1.below hal (Nat.le_refl _)).le hal.size
 have k2:=(h2.below hal (Nat.le_refl _)).le hal.size
 cases hp:Jt xs ys with
 | false =>
  rw [Qe0 G hp,Qd1 F hp]
  have HN:=Lib.hid (Qhh _ a1 n1 c1 xs a2 n2 c2 ys (.func (.func 285) #[] #[.pointer (some ⟨w.heap.size,0,none⟩)]) k1 k2 hp)
  have HA:=Lib.hid hal
  clear k1 k2 hp h1 h2 hdo hal
  go_enter Tryz.func237,Tryz.ntmps237
  go_wp2_with fail
  refine HN.out.mono ?_
  rintro e w' ⟨rfl,rfl⟩
  go_wp2_with fail
  go_ret2
  exact ⟨_,rfl,Row.nil _ _,HA.out⟩
 | true =>
  obtain ⟨hp1,hp2,hl⟩:=Qa1 hp
  rw [Qdi G hp,Qbw F hp,h1.len]
  have hnn:n1=n2:=by rw [<- h1.len,<- h2.len];exact hl
  subst hnn
  have hD:(w.alloc (.cells #[.func (.func g) #[] lb] 123)).cell? ⟨w.heap.size,0,none⟩=some (.func (.func g) #[] lb):=by
   rw [cell_of_row _ _ _ _ _ _ (heap_alloc_new w _)]
   rfl
  have hsz:(w.alloc (.cells #[.func (.func g) #[] lb] 123)).heap.size=w.heap.size+1:=by simp
  have HY:=Lib.hid (Qf1 _ a1 n1 c1 xs a2 c2 ys 285 #[.pointer (some ⟨w.heap.size,0,none⟩)] F G Qqz (fun wr v zs x y hb hrow hz =>
   Qpg _ w.heap.size wr v zs x y (F x y) (G x y) g lb eg ((hb.cell (p:=⟨w.heap.size,0,none⟩) (by rw [hsz];exact Nat.lt_succ_self _)).trans hD) hb.size hrow hz (hdo wr x y (hal.trans (hb.mono hal.size)))) k1 k2 hp1 hp2)
  have HA:=Lib.hid hal
  clear k1 k2 hp h1 h2 hdo hal hp1 hp2 hl hD hsz
  go_enter Tryz.func237,Tryz.ntmps237
  go_wp2_with fail
  refine HY.out.mono ?_
  rintro e w' ⟨v,rfl,hrow,hb⟩
  go_wp2_with fail
  go_ret2
  exact ⟨_,rfl,hrow.le HA.out.size,HA.out.trans (hb.mono HA.out.size)⟩
end Go.Proofs.YtcooobnaocbdjaaGreatDoor

end

/-! YtcooobnaocbdjaaGreatDoorPVecI -/
section
set_option maxRecDepth 100000
set_option linter.unusedVariables false
namespace Go.Proofs.YtcooobnaocbdjaaGreatDoor
open Go.RowKit
theorem Qrs : ∀ args w,(callFunc 145 args).run Tryz.prog w = .ok (.enter 145 args) w:=enters_of Tryz.func145 (by kernel_rfl) rfl
theorem Qrt : ∀ args w,(callFunc 238 args).run Tryz.prog w = .ok (.enter 238 args) w:=enters_of Tryz.func238 (by kernel_rfl) rfl
theorem Qph : ∀ args w,(callFunc 352 args).run Tryz.prog w = .ok (.enter 352 args) w:=enters_of Tryz.func352 (by kernel_rfl) rfl
theorem Qru : ∀ args w,(callFunc 280 args).run Tryz.prog w = .ok (.enter 280 args) w:=enters_of Tryz.func280 (by kernel_rfl) rfl
theorem Qq0 : ∀ args w,(callFunc 360 args).run Tryz.prog w = .ok (.enter 360 args) w:=enters_of Tryz.func360 (by kernel_rfl) rfl
theorem Qis (x y:Int) (w:World) (hg:Z0 w) :
  Calls Tryz.prog 360 #[.int .i64 x,.int .i64 y] w fun e w'=>e = .returned (.tuple #[.int .i64 (Qaq x),.bool false])/\Below w.heap.size w w':=by
 have HG:=Lib.hid hg
 clear hg
 go_enter Tryz.func360,Tryz.ntmps360
 go_wp2_with fail
 refine (Qii x _ HG.out).mono ?_
 rintro e w1 ⟨rfl,hb⟩
 go_wp2_with fail
 go_ret2
 exact ⟨rfl,hb⟩
theorem Qhj (D:Nat) (c x y:Int) (w:World) (hD:w.cell? ⟨D,0,none⟩=some (.int .i64 c)) (hg:Z0 w) :
  Calls Tryz.prog 352 #[.int .i64 x,.int .i64 y,.pointer (some ⟨D,0,none⟩)] w fun e w'=>e = .returned (.tuple #[.int .i64 (mulN c x),.bool (mulB c x)])/\Below w.heap.size w w':=by
 have HG:=Lib.hid hg
 clear hg
 go_enter Tryz.func352,Tryz.ntmps352
 go_wp2_with fail
 refine (Qc0 c x _ HG.out).mono ?_
 rintro e w1 ⟨rfl,hb⟩
 go_wp2_with fail
 go_ret2
 exact ⟨rfl,hb⟩
theorem Qj5 (s x y:Int) (w:World) (hg:Z0 w) :
  Calls Tryz.prog 280 #[.int .i64 s,.int .i64 x,.int .i64 y] w fun e w'=>e = .returned (.tuple #[.int .i64 (dotF s x y),.bool (dotG s x y)])/\Below w.heap.size w w':=by
 have HG:=Lib.hid hg
 have hlt:=hg.lt
 clear hg
 obtain ⟨p,hp⟩ : ∃ p,mulN x y=p:=⟨_,rfl⟩
 obtain ⟨o,ho⟩ : ∃ o,mulB x y=o:=⟨_,rfl⟩
 have HM:=Lib.hid (fun w h=>Qc0 x y w h)
 rw [hp,ho] at HM
 unfold dotF dotG
 rw [hp,ho]
 clear hp ho
 cases o
 ·go_enter Tryz.func280,Tryz.ntmps280
  go_wp2_with fail
  refine (HM.out _ HG.out).mono ?_
  rintro e w1 ⟨rfl,hb⟩
  go_wp2_with fail
  refine (Qam s p _ (HG.out.below hlt hb)).mono ?_
  rintro e w2 ⟨rfl,hb2⟩
  go_wp2_with fail
  go_ret2
  exact ⟨rfl,hb.trans (hb2.mono hb.size)⟩
 ·go_enter Tryz.func280,Tryz.ntmps280
  go_wp2_with fail
  refine (HM.out _ HG.out).mono ?_
  rintro e w1 ⟨rfl,hb⟩
  go_wp2_with fail
  refine (Qam s p _ (HG.out.below hlt hb)).mono ?_
  rintro e w2 ⟨rfl,hb2⟩
  go_wp2_with fail
  go_ret2
  exact ⟨rfl,hb.trans (hb2.mono hb.size)⟩
def RowB (w:World) (zs:List Int) (o:Bool) (e:Ending) (w':World):Prop:= ∃ v,e = .returned (.tuple #[v,.bool o])/\Row w.heap.size w' v zs/\Below w.heap.size w w'
def RowV (w:World) (zs:List Int) (e:Ending) (w':World):Prop:= ∃ v,e = .returned v/\Row w.heap.size w' v zs/\Below w.heap.size w w'
def NumB (w:World) (x:Int) (o:Bool) (e:Ending) (w':World):Prop:=e = .returned (.tuple #[.int .i64 x,.bool o])/\Below w.heap.size w w'
theorem Qc2 (w:World) (a1:Option Addr) (n1 c1:Nat) (xs:List Int) (a2:Option Addr) (n2 c2:Nat) (ys:List Int) (h1:IntsIn w.heap.size w a1 n1 xs) (h2:IntsIn w.heap.size w a2 n2 ys) (hg:Z0 w) :
  Calls Tryz.prog 355 #[.slice a1 n1 c1,.slice a2 n2 c2] w (RowB w (rowP addN xs ys) (Qbi addB xs ys)):=by
 have hlt:=hg.lt
 have H:=Lib.hid (Qbc w a1 n1 c1 xs a2 n2 c2 ys 145 #[] addN addB Qrs (fun wr x y hb=>by rw [Array.append_empty];exact Qam x y wr (hg.below hlt hb)) h1 h2)
 clear h1 h2 hg hlt
 go_enter Tryz.func355,Tryz.ntmps355
 go_wp2_with fail
 refine H.out.mono ?_
 rintro e w1 ⟨v,rfl,hr,hb⟩
 go_wp2_with fail
 go_ret2
 exact ⟨_,rfl,hr,hb⟩
theorem Qf3 (w:World) (a1:Option Addr) (n1 c1:Nat) (xs:List Int) (a2:Option Addr) (n2 c2:Nat) (ys:List Int) (h1:IntsIn w.heap.size w a1 n1 xs) (h2:IntsIn w.heap.size w a2 n2 ys) (hg:Z0 w) :
  Calls Tryz.prog 156 #[.slice a1 n1 c1,.slice a2 n2 c2] w (RowB w (rowP subN xs ys) (Qbi subB xs ys)):=by
 have hlt:=hg.lt
 have H:=Lib.hid (Qbc w a1 n1 c1 xs a2 n2 c2 ys 238 #[] subN subB Qrt (fun wr x y hb=>by rw [Array.append_empty];exact Qfy x y wr (hg.below hlt hb)) h1 h2)
 clear h1 h2 hg hlt
 go_enter Tryz.func156,Tryz.ntmps156
 go_wp2_with fail
 refine H.out.mono ?_
 rintro e w1 ⟨v,rfl,hr,hb⟩
 go_wp2_with fail
 go_ret2
 exact ⟨_,rfl,hr,hb⟩
theorem Qfd (w:World) (a1:Option Addr) (n1 c1:Nat) (xs:List Int) (h1:IntsIn w.heap.size w a1 n1 xs) (hg:Z0 w) :
  Calls Tryz.prog 358 #[.slice a1 n1 c1] w (RowV w (rowP (fun x _=>Qaq x) xs xs)):=by
 have hlt:=hg.lt
 have H:=Lib.hid (Qbc w a1 n1 c1 xs a1 n1 c1 xs 360 #[] (fun x _=>Qaq x) (fun _ _=>false) Qq0 (fun wr x y hb=>by rw [Array.append_empty];exact Qis x y wr (hg.below hlt hb)) h1 h1)
 clear h1 hg hlt
 go_enter Tryz.func358,Tryz.ntmps358
 go_wp2_with fail
 refine H.out.mono ?_
 rintro e w1 ⟨v,rfl,hr,hb⟩
 go_wp2_with fail
 go_ret
 exact ⟨_,rfl,hr,hb⟩
theorem Qeq (c:Int) (w:World) (a1:Option Addr) (n1 c1:Nat) (xs:List Int) (h1:IntsIn w.heap.size w a1 n1 xs) (hg:Z0 w) :
  Calls Tryz.prog 350 #[.int .i64 c,.slice a1 n1 c1] w (RowB w (Qas c xs) (Qbr c xs)):=by
 have hal:Below w.heap.size w (w.alloc (.cells #[.int .i64 c] 3)):=(Below.refl _ _).alloc (Nat.le_refl _) _
 have hsz:(w.alloc (.cells #[.int .i64 c] 3)).heap.size=w.heap.size+1:=by simp
 have hD:(w.alloc (.cells #[.int .i64 c] 3)).cell? ⟨w.heap.size,0,none⟩=some (.int .i64 c):=by
  rw [cell_of_row _ _ _ _ _ _ (heap_alloc_new w _)]
  rfl
 have hlt:=hg.lt
 have k1:=(h1.below hal (Nat.le_refl _)).le hal.size
 have hg1:Z0 (w.alloc (.cells #[.int .i64 c] 3)):=hg.below hlt hal
 have hlt1:=hg1.lt
 have HF:=Lib.hid (fun w=>Qdh c w)
 have H:=Lib.hid (Qbc _ a1 n1 c1 xs a1 n1 c1 xs 352 #[.pointer (some ⟨w.heap.size,0,none⟩)] (fun x _=>mulN c x) (fun x _=>mulB c x) Qph
  (fun wr x y hb=>Qhj w.heap.size c x y wr ((hb.cell (p:=⟨w.heap.size,0,none⟩) (by rw [hsz];exact Nat.lt_succ_self _)).trans hD) (hg1.below hlt1 hb)) k1 k1)
 unfold Qas Qbr
 have HA:=Lib.hid hal
 obtain ⟨o,ho⟩ : ∃ o,okB c=o:=⟨_,rfl⟩
 rw [ho]
 rw [ho] at HF
 clear h1 hg hlt k1 hg1 hlt1 hal hsz ho hD
 cases o
 ·go_enter Tryz.func350,Tryz.ntmps350
  go_wp2_with fail
  refine (HF.out _).mono ?_
  rintro e w1 ⟨rfl,rfl⟩
  go_wp2_with fail
  go_ret2
  exact ⟨_,rfl,Row.nil _ _,HA.out⟩
 ·go_enter Tryz.func350,Tryz.ntmps350
  go_wp2_with fail
  refine (HF.out _).mono ?_
  rintro e w1 ⟨rfl,rfl⟩
  go_wp2_with fail
  refine H.out.mono ?_
  rintro e w1 ⟨v,rfl,hr,hb⟩
  go_wp2_with fail
  go_ret2
  exact ⟨_,rfl,hr.le HA.out.size,HA.out.trans (hb.mono HA.out.size)⟩
theorem Qc3 (w:World) (a1:Option Addr) (n1 c1:Nat) (xs:List Int) (a2:Option Addr) (n2 c2:Nat) (ys:List Int) (h1:IntsIn w.heap.size w a1 n1 xs) (h2:IntsIn w.heap.size w a2 n2 ys) (hg:Z0 w) :
  Calls Tryz.prog 229 #[.slice a1 n1 c1,.slice a2 n2 c2] w (NumB w (dotN xs ys) (dotB xs ys)):=by
 cases hp:Jt xs ys with
 | false =>
  rw [Qnf hp,Qng hp]
  have HN:=Lib.hid (Qhi w a1 n1 c1 xs a2 n2 c2 ys (.func (.func 280) #[] #[]) h1 h2 hp)
  clear h1 h2 hp hg
  go_enter Tryz.func229,Tryz.ntmps229
  go_wp2_with fail
  refine HN.out.mono ?_
  rintro e w1 ⟨rfl,rfl⟩
  go_wp2_with fail
  go_ret2
  exact ⟨rfl,Below.refl _ _⟩
 | true =>
  obtain ⟨hp1,hp2,hl⟩:=Qa1 hp
  have hlt:=hg.lt
  rw [Qk0 hp,Qk1 hp,h1.len]
  have hnn:n1=n2:=by rw [<- h1.len,<- h2.len];exact hl
  subst hnn
  have HY:=Lib.hid (Qf2 w a1 n1 c1 xs a2 c2 ys 280 #[] dotF dotG Qru (fun wr s x y hb=>by rw [Array.append_empty];exact (Qj5 s x y wr (hg.below hlt hb)).mono fun e w' ⟨he,hb'⟩=>⟨he,hb'.mono hb.size⟩) h1 h2 hp1 hp2)
  clear h1 h2 hp hg hp1 hp2 hl hlt
  go_enter Tryz.func229,Tryz.ntmps229
  go_wp2_with fail
  refine HY.out.mono ?_
  rintro e w1 ⟨rfl,hb⟩
  go_wp2_with fail
  go_ret2
  exact ⟨rfl,hb⟩
end Go.Proofs.YtcooobnaocbdjaaGreatDoor

end

/-! YtcooobnaocbdjaaGreatDoorPVecS -/
section
set_option maxRecDepth 100000
set_option linter.unusedVariables false
namespace Go.Proofs.YtcooobnaocbdjaaGreatDoor
open Go.RowKit
theorem Row.empty (w:World) (o:Obj) (h:o = .cells #[] 3 (0,0)):Row w.heap.size (w.alloc o) (.slice (some ⟨w.heap.size,0,none⟩) 0 0) []:=by
 subst h
 exact ⟨rfl,.inr ⟨_,0,#[],rfl,Nat.le_refl _,heap_alloc_new w _,Nat.le_refl _,Nat.zero_le _,rfl,rfl⟩⟩
theorem Qdc {B:Nat} {w w':World} (h:Below B w w') (m:Nat):Below B w (w'.drewN m):=h.trans ⟨rfl,rfl,rfl,Nat.le_refl _,fun _ _=>rfl⟩
theorem Row.drewN {base:Nat} {w:World} {v:Value} {zs:List Int} (h:Row base w v zs) (m:Nat):Row base (w.drewN m) v zs:=h.below ⟨rfl,rfl,rfl,Nat.le_refl _,fun _ _=>rfl⟩
theorem Qc4 (w:World) (a1:Option Addr) (n1 c1:Nat) (xs:List Int) (a2:Option Addr) (n2 c2:Nat) (ys:List Int) (h1:IntsIn w.heap.size w a1 n1 xs) (h2:IntsIn w.heap.size w a2 n2 ys) :
  Calls Tryz.prog 245 #[.slice a1 n1 c1,.slice a2 n2 c2] w (RowB w (rowP addN xs ys) (Qbi addB xs ys)):=by
 obtain ⟨i0,hi,hz0,hz1,hz2⟩:=info_parts Tryz.infoI64
 have hr1:=h1.room
 have HX:=Lib.hid h1
 have HY:=Lib.hid h2
 cases hp:Jt xs ys with
 | false =>
  rw [Qe0 addB hp,Qd1 addN hp]
  have HP:=Lib.hid hp
  clear hp h1 h2
  go_enter Tryz.func245,Tryz.ntmps245
  go_wp2_with fail
  go_loopw [6,7,8] (fun m o i wr=>i = .int .i64 0/\o = .bool false/\Row w.heap.size wr m []/\Below w.heap.size w wr) (fun _ _ _ _=>0)
  case atStart=>exact ⟨rfl,rfl,Row.empty w _ rfl,(Below.refl _ _).alloc (Nat.le_refl _) _⟩
  case round =>
   obtain ⟨rfl,rfl,hrow,hb⟩:=hrel
   have HR:=Lib.hid hrow
   have HB:=Lib.hid hb
   clear hrow hb
   by_cases hlt:0<n1
   ·have hP:=Qay wr a1 n1 c1 xs a2 n2 c2 ys ((HX.out.below HB.out (Nat.le_refl _)).le HB.out.size) ((HY.out.below HB.out (Nat.le_refl _)).le HB.out.size)
    rw [HP.out] at hP
    have HQ:=Lib.hid hP
    clear hP
    go_wp2_with fail
    refine HQ.out.mono ?_
    rintro e w' ⟨rfl,rfl⟩
    go_wp2_with fail
    go_ret2
    exact ⟨_,rfl,HR.out,HB.out⟩
   ·have hge : ¬ (0:Int)<(n1:Int):=by omega
    have hdd:decide ((0:Int)<(n1:Int))=false:=decide_eq_false hge
    go_wp2_with fail
    go_ret2
    exact ⟨_,rfl,HR.out,HB.out⟩
 | true =>
  obtain ⟨hp1,hp2,hl⟩:=Qa1 hp
  rw [Qdi addB hp,Qbw addN hp,h1.len]
  have hnn:n1=n2:=by rw [<- h1.len,<- h2.len];exact hl
  subst hnn
  have hn6:=(Q8 hp1).2.1
  rw [h1.len] at hn6
  have HP:=Lib.hid hp
  clear hp h1 h2 hp1 hp2 hl
  go_enter Tryz.func245,Tryz.ntmps245
  go_wp2_with fail
  go_loopw [6,7,8] (fun m o i wr => ∃ k:Nat,k<=n1/\i = .int .i64 k/\o = .bool (Qa9 addB xs ys k)/\Row w.heap.size wr m (rowK addN xs ys k)/\Below w.heap.size w wr) (fun _ _ i _=>n1-(intOf i).toNat)
  case atStart=>exact ⟨0,Nat.zero_le _,rfl,rfl,Row.empty w _ rfl,(Below.refl _ _).alloc (Nat.le_refl _) _⟩
  case round =>
   obtain ⟨k,hk,rfl,rfl,hrow,hb⟩:=hrel
   have hl:=Jc addN xs ys k
   have HR:=Lib.hid hrow
   have HB:=Lib.hid hb
   clear hrow hb
   by_cases hlt:k<n1
   ·obtain ⟨b,o,rfl,hbB,hcell0⟩:=HX.out.cells k hlt
    obtain ⟨b',o',rfl,hbB',hcell0'⟩:=HY.out.cells k hlt
    have hP:=Qay wr _ n1 c1 xs _ n1 c2 ys ((HX.out.below HB.out (Nat.le_refl _)).le HB.out.size) ((HY.out.below HB.out (Nat.le_refl _)).le HB.out.size)
    rw [HP.out] at hP
    have HQ:=Lib.hid hP
    obtain ⟨X,hX⟩ : ∃ X,X=xs.getD k 0:=⟨_,rfl⟩
    obtain ⟨Y,hY⟩ : ∃ Y,Y=ys.getD k 0:=⟨_,rfl⟩
    rw [<- hX] at hcell0
    rw [<- hY] at hcell0'
    have hcell:=(HB.out.cell (p:=⟨b,o+k,none⟩) hbB).trans hcell0
    have hcell':=(HB.out.cell (p:=⟨b',o'+k,none⟩) hbB').trans hcell0'
    obtain ⟨fl,hfl⟩ : ∃ fl,Qa9 addB xs ys k=fl:=⟨_,rfl⟩
    obtain ⟨rn,hrn⟩ : ∃ rn,addN X Y=rn:=⟨_,rfl⟩
    obtain ⟨go,hgo⟩ : ∃ go,addB X Y=go:=⟨_,rfl⟩
    have hT:=fun w=>Qbj X Y w
    rw [hgo,hrn] at hT
    have HT:=Lib.hid hT
    have e1:Qa9 addB xs ys (k+1)=(fl || go):=by rw [Qa9,hfl,<- hX,<- hY,hgo]
    have e2:rowK addN xs ys (k+1)=rowK addN xs ys k ++ [rn]:=by rw [rowK,<- hX,<- hY,hrn]
    have E1:=Lib.hid e1
    have E2:=Lib.hid e2
    rw [hfl]
    clear hX hY hcell0 hcell0' hfl hgo hrn hT e1 e2 hP
    go_wp2_with fail
    refine HQ.out.mono ?_
    rintro e w' ⟨rfl,rfl⟩
    go_wp2_with fail
    go_quiet ((go_at_call 76;refine Calls.quiet_of_same ((HT.out _).mono fun e w' ⟨he,hw⟩=>⟨he,hw.symm⟩)))
    have hbq:Below w.heap.size w (wr.drewN nq):=Qdc HB.out nq
    have hrq:=HR.out.drewN nq
    generalize wr.drewN nq=wq at hbq hrq |-
    have hown:wq.ownsRow w.heap.size 3 1 _ _ (Qp _):=hrq
    have hsz:=hbq.size
    have HRQ:=Lib.hid hrq
    have HBQ:=Lib.hid hbq
    clear hrq hbq
    cases fl
    ·go_wp2_with (at_builtin;refine wpList_append_own _ rfl _ _ 28 rfl w.heap.size 3 i0 (.int .i64 0) 1 8 Tryz.underlying28 hi hz0 hz1 hz2 rfl (by decide) _ _ _ rfl (hown.alloc _) ⟨wq.heap.size,0,none⟩ 1 1 (Qp [rn]) rfl rfl (Z9 _ _ _) (Jf _) (by unfold maxLen;omega) (by omega) (by simp;omega) ?_;intro v' w2 hown' hgrow _)
     have hput:=Row.put HRQ.out hsz _ hown' hgrow
     clear hown' hgrow hown
     go_wp2_with fail
     go_roundw
     case rel=>exact ⟨k+1,by omega,by go_num,by rw [E1.out];rfl,by rw [E2.out];exact hput.1,HBQ.out.trans hput.2⟩
     case measure=>simp [intOf];omega
    ·go_wp2_with (at_builtin;refine wpList_append_own _ rfl _ _ 28 rfl w.heap.size 3 i0 (.int .i64 0) 1 8 Tryz.underlying28 hi hz0 hz1 hz2 rfl (by decide) _ _ _ rfl (hown.alloc _) ⟨wq.heap.size,0,none⟩ 1 1 (Qp [rn]) rfl rfl (Z9 _ _ _) (Jf _) (by unfold maxLen;omega) (by omega) (by simp;omega) ?_;intro v' w2 hown' hgrow _)
     have hput:=Row.put HRQ.out hsz _ hown' hgrow
     clear hown' hgrow hown
     go_wp2_with fail
     go_roundw
     case rel=>exact ⟨k+1,by omega,by go_num,by rw [E1.out];rfl,by rw [E2.out];exact hput.1,HBQ.out.trans hput.2⟩
     case measure=>simp [intOf];omega
   ·obtain rfl:k=n1:=by omega
    go_wp2_with fail
    go_ret2
    exact ⟨_,rfl,HR.out,HB.out⟩
theorem Qf4 (w:World) (a1:Option Addr) (n1 c1:Nat) (xs:List Int) (a2:Option Addr) (n2 c2:Nat) (ys:List Int) (h1:IntsIn w.heap.size w a1 n1 xs) (h2:IntsIn w.heap.size w a2 n2 ys) :
  Calls Tryz.prog 98 #[.slice a1 n1 c1,.slice a2 n2 c2] w (RowB w (rowP subN xs ys) (Qbi subB xs ys)):=by
 obtain ⟨i0,hi,hz0,hz1,hz2⟩:=info_parts Tryz.infoI64
 have hr1:=h1.room
 have HX:=Lib.hid h1
 have HY:=Lib.hid h2
 cases hp:Jt xs ys with
 | false =>
  rw [Qe0 subB hp,Qd1 subN hp]
  have HP:=Lib.hid hp
  clear hp h1 h2
  go_enter Tryz.func98,Tryz.ntmps98
  go_wp2_with fail
  go_loopw [6,7,8] (fun m o i wr=>i = .int .i64 0/\o = .bool false/\Row w.heap.size wr m []/\Below w.heap.size w wr) (fun _ _ _ _=>0)
  case atStart=>exact ⟨rfl,rfl,Row.empty w _ rfl,(Below.refl _ _).alloc (Nat.le_refl _) _⟩
  case round =>
   obtain ⟨rfl,rfl,hrow,hb⟩:=hrel
   have HR:=Lib.hid hrow
   have HB:=Lib.hid hb
   clear hrow hb
   by_cases hlt:0<n1
   ·have hP:=Qay wr a1 n1 c1 xs a2 n2 c2 ys ((HX.out.below HB.out (Nat.le_refl _)).le HB.out.size) ((HY.out.below HB.out (Nat.le_refl _)).le HB.out.size)
    rw [HP.out] at hP
    have HQ:=Lib.hid hP
    clear hP
    go_wp2_with fail
    refine HQ.out.mono ?_
    rintro e w' ⟨rfl,rfl⟩
    go_wp2_with fail
    go_ret2
    exact ⟨_,rfl,HR.out,HB.out⟩
   ·have hge : ¬ (0:Int)<(n1:Int):=by omega
    have hdd:decide ((0:Int)<(n1:Int))=false:=decide_eq_false hge
    go_wp2_with fail
    go_ret2
    exact ⟨_,rfl,HR.out,HB.out⟩
 | true =>
  obtain ⟨hp1,hp2,hl⟩:=Qa1 hp
  rw [Qdi subB hp,Qbw subN hp,h1.len]
  have hnn:n1=n2:=by rw [<- h1.len,<- h2.len];exact hl
  subst hnn
  have hn6:=(Q8 hp1).2.1
  rw [h1.len] at hn6
  have HP:=Lib.hid hp
  clear hp h1 h2 hp1 hp2 hl
  go_enter Tryz.func98,Tryz.ntmps98
  go_wp2_with fail
  go_loopw [6,7,8] (fun m o i wr => ∃ k:Nat,k<=n1/\i = .int .i64 k/\o = .bool (Qa9 subB xs ys k)/\Row w.heap.size wr m (rowK subN xs ys k)/\Below w.heap.size w wr) (fun _ _ i _=>n1-(intOf i).toNat)
  case atStart=>exact ⟨0,Nat.zero_le _,rfl,rfl,Row.empty w _ rfl,(Below.refl _ _).alloc (Nat.le_refl _) _⟩
  case round =>
   obtain ⟨k,hk,rfl,rfl,hrow,hb⟩:=hrel
   have hl:=Jc subN xs ys k
   have HR:=Lib.hid hrow
   have HB:=Lib.hid hb
   clear hrow hb
   by_cases hlt:k<n1
   ·obtain ⟨b,o,rfl,hbB,hcell0⟩:=HX.out.cells k hlt
    obtain ⟨b',o',rfl,hbB',hcell0'⟩:=HY.out.cells k hlt
    have hP:=Qay wr _ n1 c1 xs _ n1 c2 ys ((HX.out.below HB.out (Nat.le_refl _)).le HB.out.size) ((HY.out.below HB.out (Nat.le_refl _)).le HB.out.size)
    rw [HP.out] at hP
    have HQ:=Lib.hid hP
    obtain ⟨X,hX⟩ : ∃ X,X=xs.getD k 0:=⟨_,rfl⟩
    obtain ⟨Y,hY⟩ : ∃ Y,Y=ys.getD k 0:=⟨_,rfl⟩
    rw [<- hX] at hcell0
    rw [<- hY] at hcell0'
    have hcell:=(HB.out.cell (p:=⟨b,o+k,none⟩) hbB).trans hcell0
    have hcell':=(HB.out.cell (p:=⟨b',o'+k,none⟩) hbB').trans hcell0'
    obtain ⟨fl,hfl⟩ : ∃ fl,Qa9 subB xs ys k=fl:=⟨_,rfl⟩
    obtain ⟨rn,hrn⟩ : ∃ rn,subN X Y=rn:=⟨_,rfl⟩
    obtain ⟨go,hgo⟩ : ∃ go,subB X Y=go:=⟨_,rfl⟩
    have hT:=fun w=>Qf0 X Y w
    rw [hgo,hrn] at hT
    have HT:=Lib.hid hT
    have e1:Qa9 subB xs ys (k+1)=(fl || go):=by rw [Qa9,hfl,<- hX,<- hY,hgo]
    have e2:rowK subN xs ys (k+1)=rowK subN xs ys k ++ [rn]:=by rw [rowK,<- hX,<- hY,hrn]
    have E1:=Lib.hid e1
    have E2:=Lib.hid e2
    rw [hfl]
    clear hX hY hcell0 hcell0' hfl hgo hrn hT e1 e2 hP
    go_wp2_with fail
    refine HQ.out.mono ?_
    rintro e w' ⟨rfl,rfl⟩
    go_wp2_with fail
    go_quiet ((go_at_call 181;refine Calls.quiet_of_same ((HT.out _).mono fun e w' ⟨he,hw⟩=>⟨he,hw.symm⟩)))
    have hbq:Below w.heap.size w (wr.drewN nq):=Qdc HB.out nq
    have hrq:=HR.out.drewN nq
    generalize wr.drewN nq=wq at hbq hrq |-
    have hown:wq.ownsRow w.heap.size 3 1 _ _ (Qp _):=hrq
    have hsz:=hbq.size
    have HRQ:=Lib.hid hrq
    have HBQ:=Lib.hid hbq
    clear hrq hbq
    cases fl
    ·go_wp2_with (at_builtin;refine wpList_append_own _ rfl _ _ 28 rfl w.heap.size 3 i0 (.int .i64 0) 1 8 Tryz.underlying28 hi hz0 hz1 hz2 rfl (by decide) _ _ _ rfl (hown.alloc _) ⟨wq.heap.size,0,none⟩ 1 1 (Qp [rn]) rfl rfl (Z9 _ _ _) (Jf _) (by unfold maxLen;omega) (by omega) (by simp;omega) ?_;intro v' w2 hown' hgrow _)
     have hput:=Row.put HRQ.out hsz _ hown' hgrow
     clear hown' hgrow hown
     go_wp2_with fail
     go_roundw
     case rel=>exact ⟨k+1,by omega,by go_num,by rw [E1.out];rfl,by rw [E2.out];exact hput.1,HBQ.out.trans hput.2⟩
     case measure=>simp [intOf];omega
    ·go_wp2_with (at_builtin;refine wpList_append_own _ rfl _ _ 28 rfl w.heap.size 3 i0 (.int .i64 0) 1 8 Tryz.underlying28 hi hz0 hz1 hz2 rfl (by decide) _ _ _ rfl (hown.alloc _) ⟨wq.heap.size,0,none⟩ 1 1 (Qp [rn]) rfl rfl (Z9 _ _ _) (Jf _) (by unfold maxLen;omega) (by omega) (by simp;omega) ?_;intro v' w2 hown' hgrow _)
     have hput:=Row.put HRQ.out hsz _ hown' hgrow
     clear hown' hgrow hown
     go_wp2_with fail
     go_roundw
     case rel=>exact ⟨k+1,by omega,by go_num,by rw [E1.out];rfl,by rw [E2.out];exact hput.1,HBQ.out.trans hput.2⟩
     case measure=>simp [intOf];omega
   ·obtain rfl:k=n1:=by omega
    go_wp2_with fail
    go_ret2
    exact ⟨_,rfl,HR.out,HB.out⟩
theorem Qer (c:Int) (w:World) (a1:Option Addr) (n1 c1:Nat) (xs:List Int) (h1:IntsIn w.heap.size w a1 n1 xs) :
  Calls Tryz.prog 247 #[.int .i64 c,.slice a1 n1 c1] w (RowB w (Qas c xs) (Qbr c xs)):=by
 obtain ⟨i0,hi,hz0,hz1,hz2⟩:=info_parts Tryz.infoI64
 have hr1:=h1.room
 have HX:=Lib.hid h1
 have hF:=fun w=>Qah c w
 cases hp:Qm xs with
 | false =>
  have hpp:Jt xs xs=false:=by rw [Qax];exact hp
  have e1:Qas c xs=[]:=by unfold Qas;rw [Qd1 _ hpp];split <;> rfl
  have e2:Qbr c xs=false:=by unfold Qbr;rw [Qe0 _ hpp,Bool.and_false]
  rw [e1,e2]
  have HP:=Lib.hid hp
  clear hp h1 hF hpp e1 e2
  go_enter Tryz.func247,Tryz.ntmps247
  go_wp2_with fail
  go_loopw [6,7,8] (fun m o i wr=>i = .int .i64 0/\o = .bool false/\Row w.heap.size wr m []/\Below w.heap.size w wr) (fun _ _ _ _=>0)
  case atStart=>exact ⟨rfl,rfl,Row.empty w _ rfl,(Below.refl _ _).alloc (Nat.le_refl _) _⟩
  case round =>
   obtain ⟨rfl,rfl,hrow,hb⟩:=hrel
   have HR:=Lib.hid hrow
   have HB:=Lib.hid hb
   clear hrow hb
   by_cases hlt:0<n1
   ·have hP:=Qu wr a1 n1 c1 xs ((HX.out.below HB.out (Nat.le_refl _)).le HB.out.size)
    rw [HP.out] at hP
    have HQ:=Lib.hid hP
    clear hP
    go_wp2_with fail
    refine HQ.out.mono ?_
    rintro e w' ⟨rfl,rfl⟩
    go_wp2_with fail
    go_ret2
    exact ⟨_,rfl,HR.out,HB.out⟩
   ·have hge : ¬ (0:Int)<(n1:Int):=by omega
    have hdd:decide ((0:Int)<(n1:Int))=false:=decide_eq_false hge
    go_wp2_with fail
    go_ret2
    exact ⟨_,rfl,HR.out,HB.out⟩
 | true =>
  cases hc:okB c with
  | false =>
  have e1:Qas c xs=[]:=by unfold Qas;rw [hc];rfl
  have e2:Qbr c xs=false:=by unfold Qbr;rw [hc];rfl
  rw [e1,e2]
  rw [hc] at hF
  have HF:=Lib.hid hF
  have HP:=Lib.hid hp
  clear hp h1 hF hc e1 e2
  go_enter Tryz.func247,Tryz.ntmps247
  go_wp2_with fail
  go_loopw [6,7,8] (fun m o i wr=>i = .int .i64 0/\o = .bool false/\Row w.heap.size wr m []/\Below w.heap.size w wr) (fun _ _ _ _=>0)
  case atStart=>exact ⟨rfl,rfl,Row.empty w _ rfl,(Below.refl _ _).alloc (Nat.le_refl _) _⟩
  case round =>
   obtain ⟨rfl,rfl,hrow,hb⟩:=hrel
   have HR:=Lib.hid hrow
   have HB:=Lib.hid hb
   clear hrow hb
   by_cases hlt:0<n1
   ·have hP:=Qu wr a1 n1 c1 xs ((HX.out.below HB.out (Nat.le_refl _)).le HB.out.size)
    rw [HP.out] at hP
    have HQ:=Lib.hid hP
    clear hP
    go_wp2_with fail
    refine HQ.out.mono ?_
    rintro e w' ⟨rfl,rfl⟩
    go_wp2_with fail
    refine (HF.out _).mono ?_
    rintro e w' ⟨rfl,rfl⟩
    go_wp2_with fail
    go_ret2
    exact ⟨_,rfl,HR.out,HB.out⟩
   ·have hge : ¬ (0:Int)<(n1:Int):=by omega
    have hdd:decide ((0:Int)<(n1:Int))=false:=decide_eq_false hge
    go_wp2_with fail
    go_ret2
    exact ⟨_,rfl,HR.out,HB.out⟩
  | true =>
  have hpp:Jt xs xs=true:=by rw [Qax];exact hp
  have e1:Qas c xs=rowK (fun x _=>mulN c x) xs xs n1:=by unfold Qas;rw [hc,Qbw _ hpp,h1.len];rfl
  have e2:Qbr c xs=Qa9 (fun x _=>mulB c x) xs xs n1:=by unfold Qbr;rw [hc,Qdi _ hpp,h1.len];rfl
  rw [e1,e2]
  have hn6:=(Q8 hp).2.1
  rw [h1.len] at hn6
  rw [hc] at hF
  have HF:=Lib.hid hF
  have HP:=Lib.hid hp
  clear hp h1 hpp hF hc e1 e2
  go_enter Tryz.func247,Tryz.ntmps247
  go_wp2_with fail
  go_loopw [6,7,8] (fun m o i wr => ∃ k:Nat,k<=n1/\i = .int .i64 k/\o = .bool (Qa9 (fun x _=>mulB c x) xs xs k)/\Row w.heap.size wr m (rowK (fun x _=>mulN c x) xs xs k)/\Below w.heap.size w wr) (fun _ _ i _=>n1-(intOf i).toNat)
  case atStart=>exact ⟨0,Nat.zero_le _,rfl,rfl,Row.empty w _ rfl,(Below.refl _ _).alloc (Nat.le_refl _) _⟩
  case round =>
   obtain ⟨k,hk,rfl,rfl,hrow,hb⟩:=hrel
   have hl:=Jc (fun x _=>mulN c x) xs xs k
   have HR:=Lib.hid hrow
   have HB:=Lib.hid hb
   clear hrow hb
   by_cases hlt:k<n1
   ·obtain ⟨b,o,rfl,hbB,hcell0⟩:=HX.out.cells k hlt
    have hP:=Qu wr _ n1 c1 xs ((HX.out.below HB.out (Nat.le_refl _)).le HB.out.size)
    rw [HP.out] at hP
    have HQ:=Lib.hid hP
    obtain ⟨X,hX⟩ : ∃ X,X=xs.getD k 0:=⟨_,rfl⟩
    rw [<- hX] at hcell0
    have hcell:=(HB.out.cell (p:=⟨b,o+k,none⟩) hbB).trans hcell0
    obtain ⟨fl,hfl⟩ : ∃ fl,Qa9 (fun x _=>mulB c x) xs xs k=fl:=⟨_,rfl⟩
    obtain ⟨rn,hrn⟩ : ∃ rn,mulN c X=rn:=⟨_,rfl⟩
    obtain ⟨go,hgo⟩ : ∃ go,mulB c X=go:=⟨_,rfl⟩
    have hT:=fun w=>Qc1 c X w
    rw [hgo,hrn] at hT
    have HT:=Lib.hid hT
    have e1:Qa9 (fun x _=>mulB c x) xs xs (k+1)=(fl || go):=by rw [Qa9,hfl,<- hX,hgo]
    have e2:rowK (fun x _=>mulN c x) xs xs (k+1)=rowK (fun x _=>mulN c x) xs xs k ++ [rn]:=by rw [rowK,<- hX,hrn]
    have E1:=Lib.hid e1
    have E2:=Lib.hid e2
    rw [hfl]
    obtain ⟨zs,hzs⟩ : ∃ zs,rowK (fun x _=>mulN c x) xs xs k=zs:=⟨_,rfl⟩
    rw [hzs] at HR E2 hl
    have hown:wr.ownsRow w.heap.size 3 1 _ _ (Qp _):=HR.out
    have hsz:=HB.out.size
    clear hX hcell0 hfl hgo hrn hT e1 e2 hP hzs
    cases fl
    all_goals
     go_wp2_with fail
     refine HQ.out.mono ?_
     rintro e w' ⟨rfl,rfl⟩
     go_wp2_with fail
     refine (HF.out _).mono ?_
     rintro e w' ⟨rfl,rfl⟩
     go_wp2_with fail
     refine (HT.out _).mono ?_
     rintro e w' ⟨rfl,rfl⟩
     go_wp2_with (at_builtin;refine wpList_append_own _ rfl _ _ 28 rfl w.heap.size 3 i0 (.int .i64 0) 1 8 Tryz.underlying28 hi hz0 hz1 hz2 rfl (by decide) _ _ _ rfl (hown.alloc _) ⟨wr.heap.size,0,none⟩ 1 1 (Qp [rn]) rfl rfl (Z9 _ _ _) (Jf _) (by unfold maxLen;omega) (by omega) (by simp;omega) ?_;intro v' w2 hown' hgrow _)
     have hput:=Row.put HR.out hsz _ hown' hgrow
     clear hown' hgrow hown
     go_wp2_with fail
     go_roundw
     case rel=>exact ⟨k+1,by omega,by go_num,by rw [E1.out];rfl,by rw [E2.out];exact hput.1,HB.out.trans hput.2⟩
     case measure=>simp [intOf];omega
   ·obtain rfl:k=n1:=by omega
    go_wp2_with fail
    go_ret2
    exact ⟨_,rfl,HR.out,HB.out⟩
theorem Qfe (w:World) (a1:Option Addr) (n1 c1:Nat) (xs:List Int) (h1:IntsIn w.heap.size w a1 n1 xs) :
  Calls Tryz.prog 246 #[.slice a1 n1 c1] w (RowV w (rowP (fun x _=>Qaq x) xs xs)):=by
 obtain ⟨i0,hi,hz0,hz1,hz2⟩:=info_parts Tryz.infoI64
 have hr1:=h1.room
 have HX:=Lib.hid h1
 cases hp:Qm xs with
 | false =>
  have hpp:Jt xs xs=false:=by rw [Qax];exact hp
  rw [Qd1 _ hpp]
  have HP:=Lib.hid hp
  clear hp h1 hpp
  go_enter Tryz.func246,Tryz.ntmps246
  go_wp2_with fail
  go_loopw [3,4] (fun m i wr=>i = .int .i64 0/\Row w.heap.size wr m []/\Below w.heap.size w wr) (fun _ _ _=>0)
  case atStart=>exact ⟨rfl,Row.empty w _ rfl,(Below.refl _ _).alloc (Nat.le_refl _) _⟩
  case round =>
   obtain ⟨rfl,hrow,hb⟩:=hrel
   have HR:=Lib.hid hrow
   have HB:=Lib.hid hb
   clear hrow hb
   by_cases hlt:0<n1
   ·have hP:=Qu wr a1 n1 c1 xs ((HX.out.below HB.out (Nat.le_refl _)).le HB.out.size)
    rw [HP.out] at hP
    have HQ:=Lib.hid hP
    clear hP
    go_wp2_with fail
    refine HQ.out.mono ?_
    rintro e w' ⟨rfl,rfl⟩
    go_wp2_with fail
    go_ret
    exact ⟨_,rfl,HR.out,HB.out⟩
   ·have hge : ¬ (0:Int)<(n1:Int):=by omega
    have hdd:decide ((0:Int)<(n1:Int))=false:=decide_eq_false hge
    go_wp2_with fail
    go_ret
    exact ⟨_,rfl,HR.out,HB.out⟩
 | true =>
  have hpp:Jt xs xs=true:=by rw [Qax];exact hp
  rw [Qbw _ hpp,h1.len]
  have hn6:=(Q8 hp).2.1
  rw [h1.len] at hn6
  have HP:=Lib.hid hp
  clear hp h1 hpp
  go_enter Tryz.func246,Tryz.ntmps246
  go_wp2_with fail
  go_loopw [3,4] (fun m i wr => ∃ k:Nat,k<=n1/\i = .int .i64 k/\Row w.heap.size wr m (rowK (fun x _=>Qaq x) xs xs k)/\Below w.heap.size w wr) (fun _ i _=>n1-(intOf i).toNat)
  case atStart=>exact ⟨0,Nat.zero_le _,rfl,Row.empty w _ rfl,(Below.refl _ _).alloc (Nat.le_refl _) _⟩
  case round =>
   obtain ⟨k,hk,rfl,hrow,hb⟩:=hrel
   have hl:=Jc (fun x _=>Qaq x) xs xs k
   have HR:=Lib.hid hrow
   have HB:=Lib.hid hb
   clear hrow hb
   by_cases hlt:k<n1
   ·obtain ⟨b,o,rfl,hbB,hcell0⟩:=HX.out.cells k hlt
    have hP:=Qu wr _ n1 c1 xs ((HX.out.below HB.out (Nat.le_refl _)).le HB.out.size)
    rw [HP.out] at hP
    have HQ:=Lib.hid hP
    obtain ⟨X,hX⟩ : ∃ X,X=xs.getD k 0:=⟨_,rfl⟩
    rw [<- hX] at hcell0
    have hcell:=(HB.out.cell (p:=⟨b,o+k,none⟩) hbB).trans hcell0
    obtain ⟨rn,hrn⟩ : ∃ rn,Qaq X=rn:=⟨_,rfl⟩
    have hT:=fun w=>Qiq X w
    rw [hrn] at hT
    have HT:=Lib.hid hT
    have e2:rowK (fun x _=>Qaq x) xs xs (k+1)=rowK (fun x _=>Qaq x) xs xs k ++ [rn]:=by rw [rowK,<- hX,hrn]
    have E2:=Lib.hid e2
    obtain ⟨zs,hzs⟩ : ∃ zs,rowK (fun x _=>Qaq x) xs xs k=zs:=⟨_,rfl⟩
    rw [hzs] at HR E2 hl
    have hown:wr.ownsRow w.heap.size 3 1 _ _ (Qp _):=HR.out
    have hsz:=HB.out.size
    clear hX hcell0 hrn hT e2 hP hzs
    ·go_wp2_with fail
     refine HQ.out.mono ?_
     rintro e w' ⟨rfl,rfl⟩
     go_wp2_with fail
     refine (HT.out _).mono ?_
     rintro e w' ⟨rfl,rfl⟩
     go_wp2_with (at_builtin;refine wpList_append_own _ rfl _ _ 28 rfl w.heap.size 3 i0 (.int .i64 0) 1 8 Tryz.underlying28 hi hz0 hz1 hz2 rfl (by decide) _ _ _ rfl (hown.alloc _) ⟨wr.heap.size,0,none⟩ 1 1 (Qp [rn]) rfl rfl (Z9 _ _ _) (Jf _) (by unfold maxLen;omega) (by omega) (by simp;omega) ?_;intro v' w2 hown' hgrow _)
     have hput:=Row.put HR.out hsz _ hown' hgrow
     clear hown' hgrow hown
     go_wp2_with fail
     go_roundw
     case rel=>exact ⟨k+1,by omega,by go_num,by rw [E2.out];exact hput.1,HB.out.trans hput.2⟩
     case measure=>simp [intOf];omega
   ·obtain rfl:k=n1:=by omega
    go_wp2_with fail
    go_ret
    exact ⟨_,rfl,HR.out,HB.out⟩
theorem Qc5 (w:World) (a1:Option Addr) (n1 c1:Nat) (xs:List Int) (a2:Option Addr) (n2 c2:Nat) (ys:List Int) (h1:IntsIn w.heap.size w a1 n1 xs) (h2:IntsIn w.heap.size w a2 n2 ys) :
  Calls Tryz.prog 169 #[.slice a1 n1 c1,.slice a2 n2 c2] w (NumB w (dotN xs ys) (dotB xs ys)):=by
 have hr1:=h1.room
 have HX:=Lib.hid h1
 have HY:=Lib.hid h2
 cases hp:Jt xs ys with
 | false =>
  rw [Qnf hp,Qng hp]
  have HP:=Lib.hid hp
  clear hp h1 h2
  go_enter Tryz.func169,Tryz.ntmps169
  go_wp2_with fail
  go_loopw [6,7,8] (fun m o i wr=>i = .int .i64 0/\o = .bool false/\m = .int .i64 0/\Below w.heap.size w wr) (fun _ _ _ _=>0)
  case atStart=>exact ⟨rfl,rfl,rfl,Below.refl _ _⟩
  case round =>
   obtain ⟨rfl,rfl,rfl,hb⟩:=hrel
   have HB:=Lib.hid hb
   clear hb
   by_cases hlt:0<n1
   ·have hP:=Qay wr a1 n1 c1 xs a2 n2 c2 ys ((HX.out.below HB.out (Nat.le_refl _)).le HB.out.size) ((HY.out.below HB.out (Nat.le_refl _)).le HB.out.size)
    rw [HP.out] at hP
    have HQ:=Lib.hid hP
    clear hP
    go_wp2_with fail
    refine HQ.out.mono ?_
    rintro e w' ⟨rfl,rfl⟩
    go_wp2_with fail
    go_ret2
    exact ⟨rfl,HB.out⟩
   ·have hge : ¬ (0:Int)<(n1:Int):=by omega
    have hdd:decide ((0:Int)<(n1:Int))=false:=decide_eq_false hge
    go_wp2_with fail
    go_ret2
    exact ⟨rfl,HB.out⟩
 | true =>
  obtain ⟨hp1,hp2,hl⟩:=Qa1 hp
  rw [Qk0 hp,Qk1 hp,h1.len]
  have hnn:n1=n2:=by rw [<- h1.len,<- h2.len];exact hl
  subst hnn
  have hn6:=(Q8 hp1).2.1
  rw [h1.len] at hn6
  have HP:=Lib.hid hp
  clear hp h1 h2 hp1 hp2 hl
  go_enter Tryz.func169,Tryz.ntmps169
  go_wp2_with fail
  go_loopw [6,7,8] (fun m o i wr => ∃ k:Nat,k<=n1/\i = .int .i64 k/\o = .bool (Qlq xs ys k)/\m = .int .i64 (dotK xs ys k)/\Below w.heap.size w wr) (fun _ _ i _=>n1-(intOf i).toNat)
  case atStart=>exact ⟨0,Nat.zero_le _,rfl,rfl,rfl,Below.refl _ _⟩
  case round =>
   obtain ⟨k,hk,rfl,rfl,rfl,hb⟩:=hrel
   have HB:=Lib.hid hb
   clear hb
   by_cases hlt:k<n1
   ·obtain ⟨b,o,rfl,hbB,hcell0⟩:=HX.out.cells k hlt
    obtain ⟨b',o',rfl,hbB',hcell0'⟩:=HY.out.cells k hlt
    have hP:=Qay wr _ n1 c1 xs _ n1 c2 ys ((HX.out.below HB.out (Nat.le_refl _)).le HB.out.size) ((HY.out.below HB.out (Nat.le_refl _)).le HB.out.size)
    rw [HP.out] at hP
    have HQ:=Lib.hid hP
    obtain ⟨X,hX⟩ : ∃ X,X=xs.getD k 0:=⟨_,rfl⟩
    rw [<- hX] at hcell0
    have hcell:=(HB.out.cell (p:=⟨b,o+k,none⟩) hbB).trans hcell0
    obtain ⟨Y,hY⟩ : ∃ Y,Y=ys.getD k 0:=⟨_,rfl⟩
    rw [<- hY] at hcell0'
    have hcell':=(HB.out.cell (p:=⟨b',o'+k,none⟩) hbB').trans hcell0'
    obtain ⟨sk,hsk⟩ : ∃ sk,dotK xs ys k=sk:=⟨_,rfl⟩
    obtain ⟨fl,hfl⟩ : ∃ fl,Qlq xs ys k=fl:=⟨_,rfl⟩
    obtain ⟨pn,hpn⟩ : ∃ pn,mulN X Y=pn:=⟨_,rfl⟩
    obtain ⟨po,hpo⟩ : ∃ po,mulB X Y=po:=⟨_,rfl⟩
    obtain ⟨sn,hsn⟩ : ∃ sn,addN sk pn=sn:=⟨_,rfl⟩
    obtain ⟨so,hso⟩ : ∃ so,addB sk pn=so:=⟨_,rfl⟩
    have hT:=fun w=>Qc1 X Y w
    rw [hpn,hpo] at hT
    have HT:=Lib.hid hT
    have hU:=fun w=>Qbj sk pn w
    rw [hsn,hso] at hU
    have HU:=Lib.hid hU
    have e1:Qlq xs ys (k+1)=(fl || (po || so)):=by
     show (Qlq xs ys k || dotG (dotK xs ys k) (xs.getD k 0) (ys.getD k 0))=_
     rw [hfl,hsk,<- hX,<- hY,dotG,hpo,hpn,hso]
    have e2:dotK xs ys (k+1)=sn:=by
     show dotF (dotK xs ys k) (xs.getD k 0) (ys.getD k 0)=_
     rw [hsk,<- hX,<- hY,dotF,hpn,hsn]
    have E1:=Lib.hid e1
    have E2:=Lib.hid e2
    rw [hfl,hsk]
    clear hX hY hcell0 hcell0' hsk hfl hpn hpo hsn hso hT hU e1 e2 hP
    go_wp2_with fail
    refine HQ.out.mono ?_
    rintro e w' ⟨rfl,rfl⟩
    go_wp2_with fail
    go_quiet ((go_at_call 248;refine Calls.quiet_of_same ((HT.out _).mono fun e w' ⟨he,hw⟩=>⟨he,hw.symm⟩)))
    have hbq:Below w.heap.size w (wr.drewN nq):=Qdc HB.out nq
    generalize wr.drewN nq=wq at hbq |-
    have HBQ:=Lib.hid hbq
    clear hbq
    cases fl <;> cases po
    all_goals
     go_wp2_with fail
     refine (HU.out _).mono ?_
     rintro e w' ⟨rfl,rfl⟩
     go_wp2_with fail
     go_roundw
     case rel=>exact ⟨k+1,by omega,by go_num,by rw [E1.out];rfl,by rw [E2.out],HBQ.out⟩
     case measure=>simp [intOf];omega
   ·obtain rfl:k=n1:=by omega
    go_wp2_with fail
    go_ret2
    exact ⟨rfl,HB.out⟩
end Go.Proofs.YtcooobnaocbdjaaGreatDoor

end
