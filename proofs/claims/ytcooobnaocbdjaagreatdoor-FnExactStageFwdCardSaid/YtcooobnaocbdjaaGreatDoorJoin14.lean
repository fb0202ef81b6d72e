import Derived.Test.YtcooobnaocbdjaaGreatDoorJoin1
import Derived.OwnWalk
import Derived.Laws.OwnMore
import Derived.Test.YtcooobnaocbdjaaGreatDoorJoin10
import Derived.Test.YtcooobnaocbdjaaGreatDoorJoin7
import Derived.Test.YtcooobnaocbdjaaGreatDoorJoin13
import Derived.Deep.QuietTactic
import Derived.BigQuiet
/-! YtcooobnaocbdjaaGreatDoorPNumPut -/
section
set_option linter.unusedSimpArgs false
set_option linter.unusedVariables false
namespace Go.Proofs.YtcooobnaocbdjaaGreatDoor
open Go.RowKit
theorem Qn6 (w:World) (k:Int) : ∀ j u,(Qp [k])[j]? = some u->(w.alloc (.cells #[.int .i64 k] 3 (0,0))).cell? ((⟨w.heap.size,0,none⟩:Addr).add j)=some u:=by
 intro j u hu
 rw [Addr.add_lit,cell_of_row _ _ _ _ _ _ (heap_alloc_new w _)]
 simpa [Qp] using hu
theorem Qf7 {l:List Int} : ∀ u∈Qp l,u.oneCell'=true:=by
 intro u hu
 obtain ⟨x,-,rfl⟩:=List.mem_map.1 hu
 rfl
theorem Qmi {ops:Array Oper} {rest:List Oper} {o:Oper} {a:Act} {Q:Exit->Act->World->Prop} (hgd:o.guard=none) (s x:Operand)
  (ho:o.op = .call { callee:= .builtin .append,args:=#[s,x],argTypes:=#[28,28] }) {base:Nat} {w0:World} (v:Value) (xs:List Int) (k:Int) (hs:a.eval s=v) (hown:Row base w0 v xs)
  (hx:a.eval x = .slice (some ⟨w0.heap.size,0,none⟩) 1 1) (hlen:xs.length<=1048000) (hbase:base<=w0.heap.size)
  (h : ∀ a' n' c' w',Row base w' (.slice a' n' c') (xs ++ [k])->Below base w0 w'->wpList Tryz.prog ops Q rest (a.put o.dst (.slice a' n' c')) w') :
  wpList Tryz.prog ops Q (o::rest) a (w0.alloc (.cells #[.int .i64 k] 3 (0,0))):=by
 obtain ⟨i0,hi,hz0,hz1,hz2⟩:=info_parts Tryz.infoI64
 refine wpList_append_own _ hgd s x 28 ho base 3 i0 (.int .i64 0) 1 8 Tryz.underlying28 hi hz0 hz1 hz2 rfl (by decide) v xs.length (Qp xs) hs (World.ownsRow.alloc hown _) ⟨w0.heap.size,0,none⟩ 1 1 (Qp [k]) hx rfl (Qn6 _ _) Qf7 (by unfold maxLen;omega) (by omega) (by simp;omega) ?_
 intro v' w' hown' hg _
 have hr:Row base w' v' (xs ++ [k]):=by
  unfold Row
  rw [List.length_append,Qau]
  exact hown'
 have hb:Below base w0 w':=((Below.refl base w0).alloc hbase _).grown hg (by simp;omega) fun k hk=>(Row.lt hown k hk).1
 obtain ⟨a',c',e,-⟩:=hr.form
 subst e
 exact h _ _ _ w' hr hb
end Go.Proofs.YtcooobnaocbdjaaGreatDoor

end

/-! YtcooobnaocbdjaaGreatDoorPStgJ -/
section
set_option maxRecDepth 100000
set_option maxHeartbeats 6400000
set_option linter.unusedSimpArgs false
set_option linter.unusedVariables false
namespace Go.Proofs.YtcooobnaocbdjaaGreatDoor
open Go.RowKit Go.Sort
def Qbk (n n':Nat) (p:Nat->Bool):Bool:=decide (n=n') && (List.range n).all p
theorem Qi8 {n n':Nat} {p:Nat->Bool} (h:n≠n'):Qbk n n' p=false:=by unfold Qbk;rw [decide_eq_false h];rfl
theorem Qlc {n n':Nat} {p:Nat->Bool} {k:Nat} (hk:k<n) (h:p k=false):Qbk n n' p=false:=by unfold Qbk;rw [Qbs hk h];simp
theorem Qi9 {n n':Nat} {p:Nat->Bool} (h:n=n') (hp : ∀ j,j<n->p j=true):Qbk n n' p=true:=by unfold Qbk;rw [decide_eq_true h,Qcd hp];rfl
def Qcy (xs:List Int) (N:Int):Bool:=Qm xs && decide ((xs.length:Int)=N)
def Qf8 (xs:List dRow) (ys:List dOp) (i:Nat):Bool:=decide ((Qet xs i).length=(opAt ys i).2.2.2.length)
def Qdu (xs:List dRow) (ys:List Int) (i:Nat):Bool:=Qcy (Qet xs i) (ys.getD i 0)
theorem Qcu (w:World) (a:Option Addr) (n c:Nat) (xs:List Int) (N:Int) (h:IntsIn w.heap.size w a n xs) :
  Calls Tryz.prog 61 #[.slice a n c,.int .i64 N] w fun e w'=>e = .returned (.bool (Qcy xs N))/\w=w':=by
 have hroom:=h.room
 have HC:=Lib.hid (Qv w a n c xs h)
 obtain ⟨p,hp⟩ : ∃ p,Qm xs=p:=⟨_,rfl⟩
 have hR:Qcy xs N=(p && decide ((n:Int)=N)):=by unfold Qcy;rw [hp,h.len]
 rw [hR]
 rw [hp] at HC
 clear h hp hR
 cases p
 ·rw [Bool.false_and]
  go_enter Tryz.func61,Tryz.ntmps61
  go_wp2_with fail
  refine HC.out.mono ?_
  rintro e w' ⟨rfl,rfl⟩
  go_wp2_with fail
  go_ret
  exact ⟨rfl,rfl⟩
 ·rw [Bool.true_and]
  go_enter Tryz.func61,Tryz.ntmps61
  go_wp2_with fail
  refine HC.out.mono ?_
  rintro e w' ⟨rfl,rfl⟩
  go_wp2_with fail
  go_ret
  exact ⟨rfl,rfl⟩
theorem Qbd (w:World) (a:Option Addr) (n c:Nat) (xs:List Int) (N:Int) (h:IntsIn w.heap.size w a n xs) :
  Calls Tryz.prog 152 #[.slice a n c,.int .i64 N] w fun e w'=>e = .returned (.bool (Qae xs N))/\w=w':=by
 have hroom:=h.room
 have HC:=Lib.hid (Qcu w a n c xs N h)
 obtain ⟨p,hp⟩ : ∃ p,Qcy xs N=p:=⟨_,rfl⟩
 have hR:Qae xs N=(decide (n=0) || p):=by unfold Qae;rw [<- hp,h.len];unfold Qcy;rw [h.len]
 rw [hR]
 rw [hp] at HC
 clear h hp hR
 by_cases h0:n=0
 ·subst h0
  go_enter Tryz.func152,Tryz.ntmps152
  go_wp2_with fail
  go_ret
  exact ⟨rfl,rfl⟩
 ·have g0:((n:Int) == 0)=false:=beq_eq_false_iff_ne.2 (by omega)
  have g1:decide (n=0)=false:=decide_eq_false h0
  have h0e:0<n:=by omega
  rw [g1,Bool.false_or]
  go_enter Tryz.func152,Tryz.ntmps152
  go_wp2_with fail
  refine HC.out.mono ?_
  rintro e w' ⟨rfl,rfl⟩
  go_wp2_with fail
  go_ret
  exact ⟨rfl,rfl⟩
theorem Qja (w:World) (a:Option Addr) (n c:Nat) (K0 K1 K2:Int) (a':Option Addr) (n' c':Nat) :
  Calls Tryz.prog 234 #[.agg #[.slice a n c],.agg #[.int .i64 K0,.int .i64 K1,.int .i64 K2,.slice a' n' c']] w fun e w'=>e = .returned (.bool (decide (n=n')))/\Below w.heap.size w w':=by
 have hal:=((Below.refl w.heap.size w).alloc (Nat.le_refl _) (.cells #[.slice a n c] 95 (0,0))).alloc (by simp) (.cells #[.int .i64 K0,.int .i64 K1,.int .i64 K2,.slice a' n' c'] 38 (0,0))
 have HA:=Lib.hid hal
 clear hal
 by_cases e:n=n'
 ·subst e
  rw [decide_eq_true rfl]
  go_enter Tryz.func234,Tryz.ntmps234
  go_wp2_with fail
  go_ret
  exact ⟨by simp,HA.out⟩
 ·have g0:((n:Int) == (n':Int))=false:=beq_eq_false_iff_ne.2 (by omega)
  rw [decide_eq_false e]
  go_enter Tryz.func234,Tryz.ntmps234
  go_wp2_with fail
  go_ret
  exact ⟨by simp,HA.out⟩
theorem Qjb (w:World) (a:Option Addr) (n c:Nat) (xs:List Int) (N:Int) (h:IntsIn w.heap.size w a n xs) :
  Calls Tryz.prog 236 #[.agg #[.slice a n c],.int .i64 N] w fun e w'=>e = .returned (.bool (Qcy xs N))/\Below w.heap.size w w':=by
 have hal:=(Below.refl w.heap.size w).alloc (Nat.le_refl _) (.cells #[.slice a n c] 95 (0,0))
 have HC:=Lib.hid (Qcu _ a n c xs N ((h.below hal (Nat.le_refl _)).le hal.size))
 have HA:=Lib.hid hal
 obtain ⟨p,hp⟩ : ∃ p,Qcy xs N=p:=⟨_,rfl⟩
 rw [hp] at HC |-
 clear h hal hp
 go_enter Tryz.func236,Tryz.ntmps236
 go_wp2_with fail
 refine HC.out.mono ?_
 rintro e w' ⟨rfl,rfl⟩
 go_wp2_with fail
 go_ret
 exact ⟨rfl,HA.out⟩
theorem Qmj : ∀ args w,(callFunc 234 args).run Tryz.prog w = .ok (.enter 234 args) w:=enters_of Tryz.func234 (by kernel_rfl) rfl
theorem Qhv (w:World) (a:Option Addr) (n c:Nat) (xs:List dRow) (h:Qb Qi (Qf w.heap.size) w a n xs) (hb:(Shape.list Qi).bulk xs<=1048576) (a':Option Addr) (n' c':Nat) (ys:List dOp) (h':Qb shOp (Qf w.heap.size) w a' n' ys) (hn':n'<=1048576) :
  Calls Tryz.prog 233 #[.slice a n c,.slice a' n' c',.func (.func 234) #[] #[]] w fun e w'=>e = .returned (.bool (Qbk xs.length ys.length (Qf8 xs ys)))/\Below w.heap.size w w':=by
 have hbk:=Qh Qi h
 rw [hbk] at hb
 have hn1:n<=1048576:=by omega
 have HL:=Lib.hid h
 have HL':=Lib.hid h'
 have HB:=Lib.hid hb
 have eg:=Qmj
 obtain ⟨d,hd⟩ : ∃ d,d=Qbk xs.length ys.length (Qf8 xs ys):=⟨_,rfl⟩
 rw [<- hd]
 have HD:=Lib.hid hd
 clear h h' hb hbk hd
 by_cases hnn:n=n'
 ·subst hnn
  go_enter Tryz.func233,Tryz.ntmps233
  go_wp2_with fail
  go_loopw [17] (fun i wr => ∃ k:Nat,k<=n/\i = .int .i64 k/\Hid (∀ j:Nat,j<k->Qf8 xs ys j=true)/\Below w.heap.size w wr) (fun i _=>n-(intOf i).toNat)
  case atStart=>exact ⟨0,Nat.zero_le _,rfl,Lib.hid fun j hj=>absurd hj (Nat.not_lt_zero _),Below.refl _ _⟩
  case round =>
   obtain ⟨k,hk,rfl,hall,hbw⟩:=hrel
   have hsz:=hbw.size
   by_cases hlt:k<n
   ·obtain ⟨b,o,x,ax,nx,cx,hx,rfl,hbB,hc0,-,-,hlx⟩:=Qch HL.out k hlt
    have hbx:=Qz Qi.bulk xs k x hx
    rw [Zs,Ql,hlx.1] at hbx
    have hnx:nx<=1048576:=by have:=HB.out;omega
    have hal:=(Below.refl wr.heap.size wr).alloc (Nat.le_refl _) (.cells #[.slice ax nx cx] 95 (0,0))
    have hbk:=heap_alloc_new wr (.cells #[.slice ax nx cx] 95 (0,0))
    have hs1:(wr.alloc (.cells #[.slice ax nx cx] 95 (0,0))).heap.size=wr.heap.size+1:=by simp
    have c0:=(hbw.cell (p:=⟨b,o+k,none⟩) hbB).trans hc0
    obtain ⟨b',o',y,ay,ny,cy,hy,rfl,hbB',hd0,hd1,hd2,hd3,-,-,hly⟩:=Qds HL'.out k hlt
    obtain ⟨K0,hK0⟩ : ∃ q,y.1=q:=⟨_,rfl⟩
    obtain ⟨K1,hK1⟩ : ∃ q,y.2.1=q:=⟨_,rfl⟩
    obtain ⟨K2,hK2⟩ : ∃ q,y.2.2.1=q:=⟨_,rfl⟩
    rw [hK0] at hd0
    rw [hK1] at hd1
    rw [hK2] at hd2
    have hbw1:=hbw.trans (hal.mono hsz)
    have d0:=(hbw1.cell (p:=⟨b',o'+k*4,none⟩) hbB').trans hd0
    have d1:=(hbw1.cell (p:=⟨b',o'+k*4+1,none⟩) hbB').trans hd1
    have d2:=(hbw1.cell (p:=⟨b',o'+k*4+2,none⟩) hbB').trans hd2
    have d3:=(hbw1.cell (p:=⟨b',o'+k*4+3,none⟩) hbB').trans hd3
    obtain ⟨p,hp⟩ : ∃ p,Qf8 xs ys k=p:=⟨_,rfl⟩
    have hp2:decide (nx=ny)=p:=by rw [<- hp];unfold Qf8;rw [Qcf hx,Zf hy,hlx.1,hly.1]
    have hal2:=hal.alloc hal.size (.cells #[.int .i64 K0,.int .i64 K1,.int .i64 K2,.slice ay ny cy] 38 (0,0))
    have HBW:=Lib.hid (hbw.trans (hal2.mono hsz))
    have HC:=Lib.hid (Qja ((wr.alloc (.cells #[.slice ax nx cx] 95 (0,0))).alloc (.cells #[.int .i64 K0,.int .i64 K1,.int .i64 K2,.slice ay ny cy] 38 (0,0))) ax nx cx K0 K1 K2 ay ny cy)
    rw [hp2] at HC
    have HP:=Lib.hid hp
    clear hx hy hlx hly hbx hbw hbw1 hc0 hd0 hd1 hd2 hd3 hK0 hK1 hK2 hp hp2 hal hal2 hbk hs1
    cases p
    ·have hdf:d=false:=by rw [HD.out];exact Qlc (by rw [HL.out.1];exact hlt) HP.out
     subst hdf
     go_wp2_with fail
     refine HC.out.mono ?_
     rintro e w1 ⟨rfl,hb⟩
     have HB1:=Lib.hid (HBW.out.trans (hb.mono HBW.out.size))
     clear hb
     go_wp2_with fail
     go_ret
     exact ⟨rfl,HB1.out⟩
    ·go_wp2_with fail
     refine HC.out.mono ?_
     rintro e w1 ⟨rfl,hb⟩
     have HB1:=Lib.hid (HBW.out.trans (hb.mono HBW.out.size))
     clear hb
     go_wp2_with fail
     go_roundw
     case rel =>
      refine ⟨k+1,by omega,by go_num,Lib.hid fun i hi => ?_,HB1.out⟩
      by_cases e:i=k
      ·subst e
       exact HP.out
      ·exact hall.out i (by omega)
     case measure=>simp [intOf];omega
   ·obtain rfl:k=n:=by omega
    have hdt:d=true:=by
     rw [HD.out]
     exact Qi9 (by rw [HL.out.1,HL'.out.1]) fun j hj=>hall.out j (by rw [<- HL.out.1];exact hj)
    subst hdt
    have HWW:=Lib.hid hbw
    clear hbw
    go_wp2_with fail
    go_ret
    exact ⟨rfl,HWW.out⟩
 ·have hne:((n:Int) != (n':Int))=true:=by simpa using fun e:(n:Int)=n'=>hnn (by omega)
  have hdf:d=false:=by
   rw [HD.out]
   exact Qi8 fun e=>hnn (by rw [<- HL.out.1,<- HL'.out.1,e])
  subst hdf
  clear hnn
  go_enter Tryz.func233,Tryz.ntmps233
  go_wp2_with fail
  go_ret
  exact ⟨rfl,Below.refl _ _⟩
theorem Qmk : ∀ args w,(callFunc 236 args).run Tryz.prog w = .ok (.enter 236 args) w:=enters_of Tryz.func236 (by kernel_rfl) rfl
theorem Qfl (w:World) (a:Option Addr) (n c:Nat) (xs:List dRow) (h:Qb Qi (Qf w.heap.size) w a n xs) (hb:(Shape.list Qi).bulk xs<=1048576) (a':Option Addr) (n' c':Nat) (ys:List Int) (h':IntsIn w.heap.size w a' n' ys) (hn':n'<=1048576) :
  Calls Tryz.prog 235 #[.slice a n c,.slice a' n' c',.func (.func 236) #[] #[]] w fun e w'=>e = .returned (.bool (Qbk xs.length ys.length (Qdu xs ys)))/\Below w.heap.size w w':=by
 have hbk:=Qh Qi h
 rw [hbk] at hb
 have hn1:n<=1048576:=by omega
 have HL:=Lib.hid h
 have HL':=Lib.hid h'
 have HB:=Lib.hid hb
 have eg:=Qmk
 obtain ⟨d,hd⟩ : ∃ d,d=Qbk xs.length ys.length (Qdu xs ys):=⟨_,rfl⟩
 rw [<- hd]
 have HD:=Lib.hid hd
 clear h h' hb hbk hd
 by_cases hnn:n=n'
 ·subst hnn
  go_enter Tryz.func235,Tryz.ntmps235
  go_wp2_with fail
  go_loopw [17] (fun i wr => ∃ k:Nat,k<=n/\i = .int .i64 k/\Hid (∀ j:Nat,j<k->Qdu xs ys j=true)/\Below w.heap.size w wr) (fun i _=>n-(intOf i).toNat)
  case atStart=>exact ⟨0,Nat.zero_le _,rfl,Lib.hid fun j hj=>absurd hj (Nat.not_lt_zero _),Below.refl _ _⟩
  case round =>
   obtain ⟨k,hk,rfl,hall,hbw⟩:=hrel
   have hsz:=hbw.size
   by_cases hlt:k<n
   ·obtain ⟨b,o,x,ax,nx,cx,hx,rfl,hbB,hc0,-,-,hlx⟩:=Qch HL.out k hlt
    have hbx:=Qz Qi.bulk xs k x hx
    rw [Zs,Ql,hlx.1] at hbx
    have hnx:nx<=1048576:=by have:=HB.out;omega
    have hal:=(Below.refl wr.heap.size wr).alloc (Nat.le_refl _) (.cells #[.slice ax nx cx] 95 (0,0))
    have hbk:=heap_alloc_new wr (.cells #[.slice ax nx cx] 95 (0,0))
    have hs1:(wr.alloc (.cells #[.slice ax nx cx] 95 (0,0))).heap.size=wr.heap.size+1:=by simp
    have c0:=(hbw.cell (p:=⟨b,o+k,none⟩) hbB).trans hc0
    obtain ⟨b',o',rfl,hbB',hd0⟩:=HL'.out.cells k hlt
    obtain ⟨Y,hY⟩ : ∃ q,ys.getD k 0=q:=⟨_,rfl⟩
    rw [hY] at hd0
    have hbw1:=hbw.trans (hal.mono hsz)
    have d0:=(hbw1.cell (p:=⟨b',o'+k,none⟩) hbB').trans hd0
    obtain ⟨p,hp⟩ : ∃ p,Qdu xs ys k=p:=⟨_,rfl⟩
    have hp2:Qcy x Y=p:=by rw [<- hp,<- hY];unfold Qdu;rw [Qcf hx]
    have HBW:=Lib.hid hbw1
    have HC:=Lib.hid (Qjb (wr.alloc (.cells #[.slice ax nx cx] 95 (0,0))) ax nx cx x Y (((hlx.below hbw1 (Nat.le_refl _)).ints hnx).le hbw1.size))
    rw [hp2] at HC
    have HP:=Lib.hid hp
    clear hx hlx hbx hbw hbw1 hc0 hd0 hY hp hp2 hal hbk hs1
    cases p
    ·have hdf:d=false:=by rw [HD.out];exact Qlc (by rw [HL.out.1];exact hlt) HP.out
     subst hdf
     go_wp2_with fail
     refine HC.out.mono ?_
     rintro e w1 ⟨rfl,hb⟩
     have HB1:=Lib.hid (HBW.out.trans (hb.mono HBW.out.size))
     clear hb
     go_wp2_with fail
     go_ret
     exact ⟨rfl,HB1.out⟩
    ·go_wp2_with fail
     refine HC.out.mono ?_
     rintro e w1 ⟨rfl,hb⟩
     have HB1:=Lib.hid (HBW.out.trans (hb.mono HBW.out.size))
     clear hb
     go_wp2_with fail
     go_roundw
     case rel =>
      refine ⟨k+1,by omega,by go_num,Lib.hid fun i hi => ?_,HB1.out⟩
      by_cases e:i=k
      ·subst e
       exact HP.out
      ·exact hall.out i (by omega)
     case measure=>simp [intOf];omega
   ·obtain rfl:k=n:=by omega
    have hdt:d=true:=by
     rw [HD.out]
     exact Qi9 (by rw [HL.out.1,HL'.out.len]) fun j hj=>hall.out j (by rw [<- HL.out.1];exact hj)
    subst hdt
    have HWW:=Lib.hid hbw
    clear hbw
    go_wp2_with fail
    go_ret
    exact ⟨rfl,HWW.out⟩
 ·have hne:((n:Int) != (n':Int))=true:=by simpa using fun e:(n:Int)=n'=>hnn (by omega)
  have hdf:d=false:=by
   rw [HD.out]
   exact Qi8 fun e=>hnn (by rw [<- HL.out.1,<- HL'.out.len,e])
  subst hdf
  clear hnn
  go_enter Tryz.func235,Tryz.ntmps235
  go_wp2_with fail
  go_ret
  exact ⟨rfl,Below.refl _ _⟩
end Go.Proofs.YtcooobnaocbdjaaGreatDoor

end

/-! YtcooobnaocbdjaaGreatDoorPStgL -/
section
set_option maxRecDepth 100000
set_option maxHeartbeats 6400000
set_option linter.unusedSimpArgs false
set_option linter.unusedVariables false
namespace Go.Proofs.YtcooobnaocbdjaaGreatDoor
open Go.RowKit Go.Sort
def Qbe (m:List dOp):List Int:=inG m::m.map (fun x=>x.2.2.1)
theorem Qkj (w:World) (a:Option Addr) (n c:Nat) (m:List dOp) (h:Qb shOp (Qf w.heap.size) w a n m) (h8:n<=8) :
  Calls Tryz.prog 155 #[.slice a n c] w fun e w' => ∃ a' c',e = .returned (.slice a' (n+1) c')/\n+1<=c'/\c'<=9223372036854775807/\Row w.heap.size w' (.slice a' (n+1) c') (Qbe m)/\Below w.heap.size w w':=by
 have HC:=Lib.hid (Qhu w a n c m h h8)
 obtain ⟨I,hI⟩ : ∃ q,inG m=q:=⟨_,rfl⟩
 have hsz:Qbe m=I::m.map (fun x=>x.2.2.1):=by unfold Qbe;rw [hI]
 rw [hsz]
 rw [hI] at HC
 have HL:=Lib.hid h
 have HLEN:=Lib.hid h.1
 have hal:=(Below.refl w.heap.size w).alloc (Nat.le_refl _) (.cells #[.int .i64 I] 3 (0,0))
 have hr0:Row w.heap.size (w.alloc (.cells #[.int .i64 I] 3 (0,0))) (.slice (some ⟨w.heap.size,0,none⟩) 1 1) [I]:=
  ⟨by simp [Qp],.inr ⟨w.heap.size,1,#[.int .i64 I],rfl,Nat.le_refl _,heap_alloc_new w _,Nat.le_refl _,by unfold maxLen;simp,by simp,by simp [Qp]⟩⟩
 have HA:=Lib.hid hal
 have HR0:=Lib.hid hr0
 clear h hI hsz hal hr0
 go_enter Tryz.func155,Tryz.ntmps155
 go_wp2_with fail
 refine HC.out.mono ?_
 rintro e w' ⟨rfl,rfl⟩
 go_wp2_with fail
 generalize w.alloc (.cells #[.int .i64 I] 3 (0,0))=W0 at HA HR0 |-
 go_loopw [3,11] (fun v i wr => ∃ k:Nat,k<=n/\i = .int .i64 k/\Row w.heap.size wr v (I::(m.take k).map (fun x=>x.2.2.1))/\Below w.heap.size w wr) (fun _ i _=>n-(intOf i).toNat)
 case atStart=>exact ⟨0,Nat.zero_le _,rfl,HR0.out,HA.out⟩
 case round =>
  obtain ⟨k,hk,rfl,hr,hbw⟩:=hrel
  have hsz:=hbw.size
  by_cases hlt:k<n
  ·obtain ⟨b,o,x,ax,nx,cx,hx,rfl,hbB,hc0,hc1,hc2,hc3,-,-,-⟩:=Qds HL.out k hlt
   have htk:(I::(m.take (k+1)).map (fun x=>x.2.2.1))=(I::(m.take k).map (fun x=>x.2.2.1)) ++ [x.2.2.1]:=by rw [List.take_add_one,hx,List.map_append];rfl
   have hlk:(I::(m.take k).map (fun x=>x.2.2.1)).length=k+1:=by rw [List.length_cons,List.length_map,List.length_take,HLEN.out];omega
   obtain ⟨K0,hK0⟩ : ∃ q,x.1=q:=⟨_,rfl⟩
   obtain ⟨K1,hK1⟩ : ∃ q,x.2.1=q:=⟨_,rfl⟩
   obtain ⟨K2,hK2⟩ : ∃ q,x.2.2.1=q:=⟨_,rfl⟩
   rw [hK0] at hc0
   rw [hK1] at hc1
   rw [hK2] at hc2 htk
   obtain ⟨L,hL⟩ : ∃ L,(I::(m.take k).map (fun x=>x.2.2.1))=L:=⟨_,rfl⟩
   rw [hL] at hr htk hlk
   obtain ⟨av,cv,rfl,-⟩:=hr.form
   rw [hlk] at hr
   have d0:=(hbw.cell (p:=⟨b,o+k*4,none⟩) hbB).trans hc0
   have d1:=(hbw.cell (p:=⟨b,o+k*4+1,none⟩) hbB).trans hc1
   have d2:=(hbw.cell (p:=⟨b,o+k*4+2,none⟩) hbB).trans hc2
   have d3:=(hbw.cell (p:=⟨b,o+k*4+3,none⟩) hbB).trans hc3
   have hal:=(Below.refl wr.heap.size wr).alloc (Nat.le_refl _) (.cells #[.int .i64 K0,.int .i64 K1,.int .i64 K2,.slice ax nx cx] 38 (0,0))
   have hbk:=heap_alloc_new wr (.cells #[.int .i64 K0,.int .i64 K1,.int .i64 K2,.slice ax nx cx] 38 (0,0))
   have hrw:Row w.heap.size (wr.alloc (.cells #[.int .i64 K0,.int .i64 K1,.int .i64 K2,.slice ax nx cx] 38 (0,0))) (.slice av (k+1) cv) L:=World.ownsRow.alloc hr (.cells #[.int .i64 K0,.int .i64 K1,.int .i64 K2,.slice ax nx cx] 38 (0,0))
   have HR:=Lib.hid hrw
   have HBW:=Lib.hid (hbw.trans (hal.mono hsz))
   have HBK:=Lib.hid hbk
   have HTK:=Lib.hid htk
   rw [hlk]
   clear hx hc0 hc1 hc2 hc3 htk hK0 hK1 hK2 hL hr hrw hbw hal hbk
   go_upto_region 5 with fail
   clear d0 d1 d2 d3
   generalize wr.alloc (.cells #[.int .i64 K0,.int .i64 K1,.int .i64 K2,.slice ax nx cx] 38 (0,0))=wb at HR HBW HBK |-
   have y2:=Qa HBK.out 2 _ rfl
   go_wp2_with (at_builtin;refine Qmi rfl _ _ rfl _ _ _ rfl HR.out rfl (by omega) (by have:=HBW.out.size;omega) ?_;intro a1 n1 c1 w1 hr1 hb1;have HR1:=Lib.hid hr1;have HB1:=Lib.hid (HBW.out.trans hb1);clear hr1 hb1)
   go_roundw
   case rel =>
    refine ⟨k+1,by omega,by go_num,?_,HB1.out⟩
    rw [HTK.out]
    exact HR1.out
   case measure=>simp [intOf];omega
  ·obtain rfl:k=n:=by omega
   rw [List.take_of_length_le (Nat.le_of_eq HLEN.out)] at hr
   obtain ⟨av,nv,cv,e',k1,k2,-⟩:=hr.own
   obtain ⟨av',cv',rfl,-⟩:=hr.form
   have hl1:(I::m.map (fun x=>x.2.2.1)).length=k+1:=by rw [List.length_cons,List.length_map,HLEN.out]
   rw [hl1] at hr e' |-
   obtain ⟨rfl,rfl,rfl⟩:av'=av/\k+1=nv/\cv'=cv:=by simpa using e'
   have HR:=Lib.hid hr
   have HBW:=Lib.hid hbw
   have HK:=Lib.hid (And.intro k1 k2)
   clear hr hbw hl1 e' k1 k2
   go_wp2_with fail
   go_ret
   exact ⟨av',cv',rfl,HK.out.1,HK.out.2,HR.out,HBW.out⟩
theorem Qhw (w:World) (a:Option Addr) (n c:Nat) (xs:List dRow) (L:Int) (q:Bool) (h:Qb Qi (Qf w.heap.size) w a n xs) (hb:(Shape.list Qi).bulk xs<=1048576) (a':Option Addr) (n' c':Nat) (ys:List dOp) (h':Qb shOp (Qf w.heap.size) w a' n' ys) (hn':n'<=1048576) :
  Calls Tryz.prog 149 #[.agg #[.slice a n c,.int .i64 L,.bool q],.slice a' n' c'] w fun e w'=>e = .returned (.bool (Qbk xs.length ys.length (Qf8 xs ys)))/\Below w.heap.size w w':=by
 have hal:=(Below.refl w.heap.size w).alloc (Nat.le_refl _) (.cells #[.slice a n c,.int .i64 L,.bool q] 30 (0,0))
 have HC:=Lib.hid (Qhv _ a n c xs ((h.below hal (Nat.le_refl _)).le hal.size) hb a' n' c' ys ((h'.below hal (Nat.le_refl _)).le hal.size) hn')
 have HA:=Lib.hid hal
 obtain ⟨p,hp⟩ : ∃ p,Qbk xs.length ys.length (Qf8 xs ys)=p:=⟨_,rfl⟩
 rw [hp] at HC |-
 clear h h' hb hal hp
 go_enter Tryz.func149,Tryz.ntmps149
 go_wp2_with fail
 refine HC.out.mono ?_
 rintro e w1 ⟨rfl,hb⟩
 have HB:=Lib.hid (HA.out.trans (hb.mono HA.out.size))
 clear hb
 go_wp2_with fail
 go_ret
 exact ⟨rfl,HB.out⟩
theorem Qhx (w:World) (a:Option Addr) (n c:Nat) (xs:List dRow) (h:Qb Qi (Qf w.heap.size) w a n xs) (hb:(Shape.list Qi).bulk xs<=1048576) (a':Option Addr) (n' c':Nat) (ys:List Int) (h':IntsIn w.heap.size w a' n' ys) (hn':n'<=1048576) :
  Calls Tryz.prog 151 #[.slice a n c,.slice a' n' c'] w fun e w'=>e = .returned (.bool (Qbk xs.length ys.length (Qdu xs ys)))/\Below w.heap.size w w':=by
 have HC:=Lib.hid (Qfl w a n c xs h hb a' n' c' ys h' hn')
 obtain ⟨p,hp⟩ : ∃ p,Qbk xs.length ys.length (Qdu xs ys)=p:=⟨_,rfl⟩
 rw [hp] at HC |-
 clear h h' hb hp
 go_enter Tryz.func151,Tryz.ntmps151
 go_wp2_with fail
 refine HC.out.mono ?_
 rintro e w1 ⟨rfl,hb⟩
 have HB:=Lib.hid hb
 clear hb
 go_wp2_with fail
 go_ret
 exact ⟨rfl,HB.out⟩
theorem IntsIn.take {B:Nat} {w:World} {a:Option Addr} {n:Nat} {xs:List Int} (h:IntsIn B w a n xs) (k:Nat) (hk:k<=n):IntsIn B w a k (xs.take k):=
 ⟨by rw [List.length_take,h.len];omega,by have:=h.room;omega,fun j hj=>by
  obtain ⟨b,o,e1,e2,e3⟩:=h.cells j (by omega)
  refine ⟨b,o,e1,e2,?_⟩
  rw [e3,List.getD_eq_getElem?_getD,List.getD_eq_getElem?_getD,List.getElem?_take,if_pos hj]⟩
def Jm (redo:Bool) (m:List dOp):List Int:=if redo=true then (Qbe m).take 1 else Qbe m
theorem Qd8 (redo:Bool) (m:List dOp):(Jm redo m).length=if redo=true then 1 else m.length+1:=by
 unfold Jm Qbe
 cases redo <;> simp
theorem Qhy (redo:Bool) (m:List dOp) (hm:0<m.length) (i:Nat) (hi:i<(Jm redo m).length):(Jm redo m).getD i 0=if i=0 then (opAt m 0).2.1 else (opAt m (i-1)).2.2.1:=by
 have h0:inG m=(opAt m 0).2.1:=by unfold inG;rw [if_neg (by omega)]
 have hg : ∀ i,i<(Qbe m).length->(Qbe m).getD i 0=if i=0 then (opAt m 0).2.1 else (opAt m (i-1)).2.2.1:=fun i hi=>by
  cases i with
  | zero=>rw [if_pos rfl];exact h0
  | succ i =>
   have hl:i<m.length:=by unfold Qbe at hi;simpa using hi
   rw [if_neg (by omega),Nat.add_sub_cancel]
   unfold Qbe
   rw [List.getD_cons_succ,List.getD_eq_getElem?_getD,List.getElem?_map,List.getElem?_eq_getElem hl,Zf (List.getElem?_eq_getElem hl)]
   rfl
 unfold Jm at hi |-
 cases redo with
 | false=>exact hg i hi
 | true =>
  simp only [if_true] at hi |-
  rw [List.length_take] at hi
  have hi0:i=0:=by omega
  subst hi0
  have:=hg 0 (by unfold Qbe;simp)
  rw [<- this]
  unfold Qbe
  rfl
theorem Qml {α:Type} {l:List α} {p q:α->Bool} (h : ∀ x∈l,p x=q x):l.all p=l.all q:=by
 induction l with
 | nil=>rfl
 | cons x r ih=>rw [List.all_cons,List.all_cons,h x (by simp),ih fun y hy=>h y (by simp [hy])]
theorem Qmm (redo:Bool) (m:List dOp) (hm:0<m.length) (x:Qx):Qbk x.2.length (Jm redo m).length (Qdu x.2 (Jm redo m))=J5 redo m x:=by
 have hl:=Qd8 redo m
 unfold Qbk J5
 rw [hl]
 by_cases e:x.2.length=if redo=true then 1 else m.length+1
 ·rw [decide_eq_true e,Bool.true_and,Bool.true_and]
  refine Qml fun i hi => ?_
  have hi':=List.mem_range.1 hi
  unfold Qdu Ja Qcy
  rw [Qhy redo m hm i (by omega)]
 ·rw [decide_eq_false e,Bool.false_and,Bool.false_and]
theorem Qeu (w:World) (redo:Bool) (q0:Int) (a0:Option Addr) (n0 c0:Nat) (a1:Option Addr) (n1 c1:Nat) (q3:Bool) (a2:Option Addr) (n2 c2:Nat) (a3:Option Addr) (n3 c3:Nat) (a4:Option Addr) (n4 c4:Nat) (a5:Option Addr) (n5 c5:Nat) (a6:Option Addr) (n6 c6:Nat) (a7:Option Addr) (n7 c7:Nat) (a8:Option Addr) (n8 c8:Nat) (q12:Int) (q13:Bool) (m:List dOp) (h:Qb shOp (Qf w.heap.size) w a1 n1 m) (h8:n1<=8) :
  Calls Tryz.prog 150 #[.agg #[.int .i64 q0,.slice a0 n0 c0,.slice a1 n1 c1,.bool q3,.bool redo,.slice a2 n2 c2,.slice a3 n3 c3,.slice a4 n4 c4,.slice a5 n5 c5,.slice a6 n6 c6,.slice a7 n7 c7,.slice a8 n8 c8,.int .i64 q12,.bool q13]] w fun e w' =>
   ∃ a' n' c',e = .returned (.slice a' n' c')/\n'<=9/\IntsIn w'.heap.size w' a' n' (Jm redo m)/\Below w.heap.size w w':=by
 have hal:Below w.heap.size w (w.alloc (.cells #[.int .i64 q0,.slice a0 n0 c0,.slice a1 n1 c1,.bool q3,.bool redo,.slice a2 n2 c2,.slice a3 n3 c3,.slice a4 n4 c4,.slice a5 n5 c5,.slice a6 n6 c6,.slice a7 n7 c7,.slice a8 n8 c8,.int .i64 q12,.bool q13] 32 (0,0))):=(Below.refl _ _).alloc (Nat.le_refl _) _
 have hk0:=heap_alloc_new w (.cells #[.int .i64 q0,.slice a0 n0 c0,.slice a1 n1 c1,.bool q3,.bool redo,.slice a2 n2 c2,.slice a3 n3 c3,.slice a4 n4 c4,.slice a5 n5 c5,.slice a6 n6 c6,.slice a7 n7 c7,.slice a8 n8 c8,.int .i64 q12,.bool q13] 32 (0,0))
 have hs0:w.heap.size<(w.alloc (.cells #[.int .i64 q0,.slice a0 n0 c0,.slice a1 n1 c1,.bool q3,.bool redo,.slice a2 n2 c2,.slice a3 n3 c3,.slice a4 n4 c4,.slice a5 n5 c5,.slice a6 n6 c6,.slice a7 n7 c7,.slice a8 n8 c8,.int .i64 q12,.bool q13] 32 (0,0))).heap.size:=by simp
 have HC:=Lib.hid (Qkj _ a1 n1 c1 m ((h.below hal (Nat.le_refl _)).le hal.size) h8)
 have hsl:(Qbe m).length=n1+1:=by unfold Qbe;rw [List.length_cons,List.length_map,h.1]
 have HSL:=Lib.hid hsl
 have HA:=Lib.hid hal
 have K0:=Lib.hid hk0
 have HS0:=Lib.hid hs0
 clear h hal hk0 hs0 hsl
 go_enter Tryz.func150,Tryz.ntmps150
 go_upto_region 1 with fail
 generalize w.alloc (.cells #[.int .i64 q0,.slice a0 n0 c0,.slice a1 n1 c1,.bool q3,.bool redo,.slice a2 n2 c2,.slice a3 n3 c3,.slice a4 n4 c4,.slice a5 n5 c5,.slice a6 n6 c6,.slice a7 n7 c7,.slice a8 n8 c8,.int .i64 q12,.bool q13] 32 (0,0))=wa at HC HA K0 HS0 |-
 have y2:=Qa K0.out 2 _ rfl
 go_wp2_with fail
 refine HC.out.mono ?_
 rintro e w1 ⟨a',c',rfl,hc1,hc2,hr,hb⟩
 have HR:=Lib.hid hr
 have HBC:=Lib.hid hb
 clear hr hb
 have HB:=Lib.hid (HA.out.trans (HBC.out.mono HA.out.size))
 have hk1:=(HBC.out.block w.heap.size HS0.out).trans K0.out
 have z4:=Qa hk1 4 _ rfl
 clear y2 hk1
 have hin:=HR.out.ints HSL.out (by omega)
 have HIN:=Lib.hid hin
 clear hin
 cases redo with
 | false =>
  go_wp2_with fail
  go_ret
  exact ⟨a',n1+1,c',rfl,by omega,HIN.out,HB.out⟩
 | true =>
  go_wp2_with fail
  go_ret
  exact ⟨a',1,c',rfl,by omega,HIN.out.take 1 (by omega),HB.out⟩
end Go.Proofs.YtcooobnaocbdjaaGreatDoor

end

/-! YtcooobnaocbdjaaGreatDoorPModD -/
section
set_option linter.unusedVariables false
namespace Go.Proofs.YtcooobnaocbdjaaGreatDoor
open Go.RowKit
section
variable (w:World) (es:List Value) (m:Qe7) (h:Qa3.reads (Qf w.heap.size) w es m) (hb:Qa3.bulk m<=1048576)
include h hb
theorem Qhz:Calls Tryz.prog 45 #[.agg es.toArray] w fun e w'=>e = .returned (.bool (Qt m))/\Below w.heap.size w w':=by
 obtain ⟨a,n,c,rfl,h1,h2,h3⟩:=Ji.1 h
 exact Qho w a n c m h3 h1 h2 hb
end
end Go.Proofs.YtcooobnaocbdjaaGreatDoor

end
