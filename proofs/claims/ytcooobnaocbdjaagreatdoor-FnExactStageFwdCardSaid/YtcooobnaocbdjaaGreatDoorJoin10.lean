import Derived.Test.YtcooobnaocbdjaaGreatDoorJoin7
import Derived.Test.YtcooobnaocbdjaaGreatDoorJoin9
import Derived.Test.YtcooobnaocbdjaaGreatDoorJoin6
import Derived.Deep.QuietTactic
import Derived.BigQuiet
/-! YtcooobnaocbdjaaGreatDoorPSeqM -/
section
set_option linter.unusedVariables false
namespace Go.Proofs.YtcooobnaocbdjaaGreatDoor
open Go.RowKit
def Qai {α:Type} (f:Nat->α):Nat->List α
 | 0=>[]
 | k+1=>Qai f k ++ [f k]
theorem Zy {α:Type} (f:Nat->α) (k:Nat):(Qai f k).length=k:=by
 induction k with
 | zero=>rfl
 | succ k ih=>simp [Qai,ih]
theorem Qan {α:Type} (f:Nat->α) (k j:Nat) (h:j<k):(Qai f k)[j]? = some (f j):=by
 induction k with
 | zero=>omega
 | succ k ih =>
  unfold Qai
  by_cases hj:j<k
  ·rw [List.getElem?_append_left (by rw [Zy];exact hj)]
   exact ih hj
  ·obtain rfl:j=k:=by omega
   rw [List.getElem?_append_right (by rw [Zy];exact Nat.le_refl _),Zy,Nat.sub_self]
   rfl
def Qet (l:List dRow) (j:Nat):dRow:=l.getD j []
theorem Qcf {l:List dRow} {j:Nat} {x:dRow} (h:l[j]? = some x):Qet l j=x:=by
 unfold Qet
 rw [List.getD_eq_getElem?_getD,h]
 rfl
def Qrx:List dRow × Int × Bool:=([],0,false)
def Qpm (m:List dOp):List dRow:=if Qt m then Qai (fun j=>Qd5 (opAt m j).2.2.2.length) m.length else []
def Qry (m:List dOp):List dRow × Int × Bool:=(Qpm m,0,false)
def addV (xs ys:List Int):List Int:=rowK addN xs ys (min xs.length ys.length)
def Qsm (xs ys:List Int):Bool:=Qa9 addB xs ys (min xs.length ys.length)
def Qq1 (a b:List dRow):List dRow:=Qai (fun j=>addV (Qet a j) (Qet b j)) (min a.length b.length)
def Qpn (a b:List dRow):Bool:=anyK (fun j=>Qsm (Qet a j) (Qet b j)) (min a.length b.length)
def addG (a b:List dRow × Int × Bool):List dRow × Int × Bool:=(Qq1 a.1 b.1,addN a.2.1 b.2.1,a.2.2 || b.2.2 || Qpn a.1 b.1 || addB a.2.1 b.2.1)
def fwOp (o:dOp) (x:List Int):List Int:=fwN o.1 o.2.1 o.2.2.1 o.2.2.2 x
def Qq2 (o:dOp) (x:List Int):Bool:=fwB o.1 o.2.1 o.2.2.1 o.2.2.2 x
def bwOp (o:dOp) (x d:List Int):List Int:=bwN o.1 o.2.1 o.2.2.1 o.2.2.2 x d
def Qsn (o:dOp) (x d:List Int):List Int:=bwG o.1 o.2.1 o.2.2.1 o.2.2.2 x d
def Qso (o:dOp) (x d:List Int):Bool:=bwB o.1 o.2.1 o.2.2.1 o.2.2.2 x d
def inK (m:List dOp) (x:List Int):Nat->List Int
 | 0=>x
 | k+1=>fwOp (opAt m k) (inK m x k)
def inKB (m:List dOp) (x:List Int):Nat->Bool
 | 0=>false
 | k+1=>inKB m x k || Qq2 (opAt m k) (inK m x k)
def insN (m:List dOp) (x:List Int):List dRow:=Qai (inK m x) (m.length+1)
def Qq3 (m:List dOp) (x d:List Int):Nat->List Int
 | 0=>d
 | t+1=>bwOp (opAt m (m.length-1-t)) (inK m x (m.length-1-t)) (Qq3 m x d t)
def Qqd (m:List dOp) (x d:List Int):Nat->Bool
 | 0=>false
 | t+1=>Qqd m x d t || Qso (opAt m (m.length-1-t)) (inK m x (m.length-1-t)) (Qq3 m x d t)
def Qrz (m:List dOp) (x d:List Int) (j:Nat):List Int:=Qsn (opAt m j) (inK m x j) (Qq3 m x d (m.length-1-j))
def Qr0 (m:List dOp) (x d:List Int):List dRow:=Qai (Qrz m x d) m.length
def Qr1 (m:List dOp) (p:Qhe):List dRow × Int × Bool:=
 if Qk3 m [p] then
  (Qr0 m p.1 (rowP subN (inK m p.1 m.length) p.2),Qce (inK m p.1 m.length) p.2,
   inKB m p.1 m.length || Qes (inK m p.1 m.length) p.2 || Qbi subB (inK m p.1 m.length) p.2 || Qqd m p.1 (rowP subN (inK m p.1 m.length) p.2) m.length)
 else Qrx
def Qr2 (l:List Qhe) (j:Nat):Qhe:=l.getD j ([],[])
def seqK (m:List dOp) (b:List Qhe):Nat->List dRow × Int × Bool
 | 0=>Qry m
 | k+1=>addG (seqK m b k) (Qr1 m (Qr2 b k))
def seqG (m:List dOp) (b:List Qhe):List dRow × Int × Bool:=if Qk3 m b then seqK m b b.length else Qrx
def Qr3 (g:List dRow × Int × Bool):Nat:=g.1.length+Shape.sum (fun (x:dRow)=>x.length) g.1
theorem Qb2 (o:dOp) (x:List Int):(fwOp o x).length<=6:=Ql5 _ _ _ _ _
end Go.Proofs.YtcooobnaocbdjaaGreatDoor

end

/-! YtcooobnaocbdjaaGreatDoorPStgM -/
section
set_option linter.unusedVariables false
namespace Go.Proofs.YtcooobnaocbdjaaGreatDoor
open Go.RowKit
abbrev pcS (s:Qq):Int:=s.1
abbrev Qfg (s:Qq):List dIns:=s.2.1
abbrev opsS (s:Qq):List dOp:=s.2.2.1
abbrev Qbt (s:Qq):Bool:=s.2.2.2.1
abbrev Qb3 (s:Qq):Bool:=s.2.2.2.2.1
abbrev Zc (s:Qq):List Qx:=s.2.2.2.2.2.1
abbrev Qj7 (s:Qq):List dRow:=s.2.2.2.2.2.2.1
abbrev xS (s:Qq):List Int:=s.2.2.2.2.2.2.2.1
abbrev yS (s:Qq):List Int:=s.2.2.2.2.2.2.2.2.1
abbrev gS (s:Qq):List Int:=s.2.2.2.2.2.2.2.2.2.1
abbrev dS (s:Qq):List Int:=s.2.2.2.2.2.2.2.2.2.2.1
abbrev sumS (s:Qq):Qat:=s.2.2.2.2.2.2.2.2.2.2.2
def Qar (l:List Qx) (m:Int):Int:=match l.findIdx? (fun x=>decide (x.1=m)) with
 | some k=>(k:Int)
 | none => -1
theorem Qpo {l:List Qx} {m:Int} {k:Nat} {x:Qx} (hx:l[k]? = some x) (he:x.1=m) (h : ∀ (j:Nat) (y:Qx),j<k->l[j]? = some y->y.1≠m):Qar l m=(k:Int):=by
 unfold Qar
 have:l.findIdx? (fun x=>decide (x.1=m))=some k:=by
  rw [List.findIdx?_eq_some_iff_getElem]
  obtain ⟨hk,e⟩:=List.getElem?_eq_some_iff.1 hx
  refine ⟨hk,by rw [e];exact decide_eq_true he,fun j hj => ?_⟩
  have:=h j _ hj (List.getElem?_eq_getElem (by omega))
  simpa using this
 rw [this]
theorem Ql6 {l:List Qx} {m:Int} (h : ∀ (j:Nat) (y:Qx),l[j]? = some y->y.1≠m):Qar l m = -1:=by
 unfold Qar
 have:l.findIdx? (fun x=>decide (x.1=m))=none:=by
  rw [List.findIdx?_eq_none_iff]
  intro x hx
  obtain ⟨j,hj⟩:=List.mem_iff_getElem?.1 hx
  have:=h j x hj
  simpa using this
 rw [this]
def Qae (v:List Int) (n:Int):Bool:=decide (v.length=0) || (Qm v && decide ((v.length:Int)=n))
def Qqe (l:List dRow):Nat:=Shape.sum (fun (r:dRow)=>r.length) l
def Qr4 (l:List Qx):Nat:=Shape.sum (fun (x:Qx)=>Qqe x.2) l
def Qsp (s:Qq):Int:=(((xS s).length+(yS s).length+(gS s).length+(dS s).length+Qr4 (Zc s)+Qqe (Qj7 s):Nat):Int)
def Ja (ops:List dOp) (r:List dRow) (i:Nat):Bool:=Qm (Qet r i) && decide (((Qet r i).length:Int)=if i=0 then (opAt ops 0).2.1 else (opAt ops (i-1)).2.2.1)
def J5 (redo:Bool) (ops:List dOp) (x:Qx):Bool:=decide (x.2.length=if redo=true then 1 else ops.length+1) && (List.range x.2.length).all (Ja ops x.2)
def Qcg (s:Qq) (i:Nat):Bool:=decide ((Qet (sumS s).1 i).length=(opAt (opsS s) i).2.2.2.length)
def Q4 (s:Qq):Bool:=
 Qt (opsS s) && inB 0 ((Qfg s).length:Int) (pcS s) && decide ((sumS s).1.length=(opsS s).length) && (List.range (opsS s).length).all (Qcg s) && (Zc s).all (J5 (Qb3 s) (opsS s)) &&
  (Qae (xS s) (Qca (opsS s)) && Qae (yS s) (Qa6 (opsS s)) && Qae (gS s) (Qa6 (opsS s)) && Qae (dS s) (Qca (opsS s)))
theorem Qaj {s:Qq} (h:Qt (opsS s)=false):Q4 s=false:=by unfold Q4;rw [h];simp
theorem Qd7 {s:Qq} (h:inB 0 ((Qfg s).length:Int) (pcS s)=false):Q4 s=false:=by unfold Q4;rw [h];simp
theorem Qek {s:Qq} (h:(sumS s).1.length≠(opsS s).length):Q4 s=false:=by unfold Q4;rw [decide_eq_false h];simp
theorem Qj8 {s:Qq} {k:Nat} (hk:k<(opsS s).length) (h:Qcg s k=false):Q4 s=false:=by unfold Q4;rw [Qbs hk h];simp
theorem Qdp {s:Qq} {k:Nat} {x:Qx} (hx:(Zc s)[k]? = some x) (h:J5 (Qb3 s) (opsS s) x=false):Q4 s=false:=by
 unfold Q4
 have:(Zc s).all (J5 (Qb3 s) (opsS s))=false:=by
  rw [List.all_eq_false]
  exact ⟨x,List.mem_of_getElem? hx,by rw [h];simp⟩
 rw [this]
 simp
def Qgz (s:Qq):Bool:=Qae (xS s) (Qca (opsS s)) && Qae (yS s) (Qa6 (opsS s)) && Qae (gS s) (Qa6 (opsS s)) && Qae (dS s) (Qca (opsS s))
theorem Qdq {s:Qq} (h1:Qt (opsS s)=true) (h2:inB 0 ((Qfg s).length:Int) (pcS s)=true) (h3:(sumS s).1.length=(opsS s).length) (h4 : ∀ j,j<(opsS s).length->Qcg s j=true)
  (h5 : ∀ (j:Nat) (x:Qx),(Zc s)[j]? = some x->J5 (Qb3 s) (opsS s) x=true):Q4 s=Qgz s:=by
 unfold Q4 Qgz
 have h6:(Zc s).all (J5 (Qb3 s) (opsS s))=true:=by
  rw [List.all_eq_true]
  intro x hx
  obtain ⟨j,hj⟩:=List.mem_iff_getElem?.1 hx
  exact h5 j x hj
 rw [h1,h2,decide_eq_true h3,Qcd h4,h6]
 simp
theorem Qfh {redo:Bool} {ops:List dOp} {x:Qx} (h:x.2.length≠if redo=true then 1 else ops.length+1):J5 redo ops x=false:=by unfold J5;rw [decide_eq_false h];rfl
theorem Qdr {redo:Bool} {ops:List dOp} {x:Qx} {k:Nat} (hk:k<x.2.length) (h:Ja ops x.2 k=false):J5 redo ops x=false:=by unfold J5;rw [Qbs hk h];simp
theorem Qix {redo:Bool} {ops:List dOp} {x:Qx} (h0:x.2.length=if redo=true then 1 else ops.length+1) (h : ∀ j,j<x.2.length->Ja ops x.2 j=true):J5 redo ops x=true:=by unfold J5;rw [decide_eq_true h0,Qcd h];rfl
theorem Qhm {ops:List dOp} {r:List dRow} {y:dRow} (hy:r[0]? = some y):Ja ops r 0=(Qm y && decide ((y.length:Int)=(opAt ops 0).2.1)):=by
 unfold Ja
 rw [Qcf hy]
 simp
theorem Qhn {ops:List dOp} {r:List dRow} {y:dRow} {k:Nat} {o:dOp} (hy:r[k+1]? = some y) (ho:ops[k]? = some o):Ja ops r (k+1)=(Qm y && decide ((y.length:Int)=o.2.2.1)):=by
 unfold Ja
 rw [Qcf hy,if_neg (by omega),Nat.add_sub_cancel,Zf ho]
def Qnw:Qq:=(0,[],[],false,false,[],[],[],[],[],[],([],0,false))
def newN (ops:List dOp) (plan:List dIns) (last redo:Bool):Qq:=if Qt ops=true then (0,plan,ops,last,redo,[],[],[],[],[],[],Qry ops) else Qnw
theorem Qch {I:Nat->Prop} {w:World} {a:Option Addr} {n:Nat} {l:List dRow} (h:Qb Qi I w a n l) (j:Nat) (hj:j<n) :
  ∃ b o x ax nx cx,l[j]? = some x/\a=some ⟨b,o,none⟩/\I b/\w.cell? ⟨b,o+j,none⟩=some (.slice ax nx cx)/\nx<=cx/\cx<=9223372036854775807/\Qb Shape.int I w ax nx x:=by
 obtain ⟨x,hx⟩ : ∃ x,l[j]? = some x:=⟨_,List.getElem?_eq_getElem (by rw [h.1];exact hj)⟩
 obtain ⟨b,o,es,e,hb,hr,hs⟩:=h.2 j x hx
 obtain ⟨ax,nx,cx,rfl,h1,h2,h3⟩:=Ze.1 hs
 refine ⟨b,o,x,ax,nx,cx,hx,e,hb,?_,h1,h2,h3⟩
 have:=hr 0 _ rfl
 simpa [Jr] using this
theorem Qcq {I:Nat->Prop} {w:World} {a:Option Addr} {n:Nat} {l:List Qx} (h:Qb Qc I w a n l) (j:Nat) (hj:j<n) :
  ∃ b o x ax nx cx,l[j]? = some x/\a=some ⟨b,o,none⟩/\I b/\w.cell? ⟨b,o+j*2,none⟩=some (.int .i64 x.1)/\w.cell? ⟨b,o+j*2+1,none⟩=some (.slice ax nx cx)/\nx<=cx/\cx<=9223372036854775807/\Qb Qi I w ax nx x.2:=by
 obtain ⟨x,hx⟩ : ∃ x,l[j]? = some x:=⟨_,List.getElem?_eq_getElem (by rw [h.1];exact hj)⟩
 obtain ⟨b,o,es,e,hb,hr,hs⟩:=h.2 j x hx
 obtain ⟨ax,nx,cx,rfl,h1,h2,h3⟩:=Q7.1 hs
 refine ⟨b,o,x,ax,nx,cx,hx,e,hb,?_,?_,h1,h2,h3⟩
 ·have:=hr 0 _ rfl
  simpa [Z7] using this
 ·have:=hr 1 _ rfl
  simpa [Z7] using this
theorem Qds {I:Nat->Prop} {w:World} {a:Option Addr} {n:Nat} {l:List dOp} (h:Qb shOp I w a n l) (j:Nat) (hj:j<n) :
  ∃ b o x ax nx cx,l[j]? = some x/\a=some ⟨b,o,none⟩/\I b/\w.cell? ⟨b,o+j*4,none⟩=some (.int .i64 x.1)/\w.cell? ⟨b,o+j*4+1,none⟩=some (.int .i64 x.2.1)/\w.cell? ⟨b,o+j*4+2,none⟩=some (.int .i64 x.2.2.1)/\w.cell? ⟨b,o+j*4+3,none⟩=some (.slice ax nx cx)/\nx<=cx/\cx<=9223372036854775807/\Qb Shape.int I w ax nx x.2.2.2:=by
 obtain ⟨x,hx⟩ : ∃ x,l[j]? = some x:=⟨_,List.getElem?_eq_getElem (by rw [h.1];exact hj)⟩
 obtain ⟨b,o,es,e,hb,hr,hs⟩:=h.2 j x hx
 obtain ⟨ax,nx,cx,rfl,h1,h2,h3⟩:=Q3.1 hs
 refine ⟨b,o,x,ax,nx,cx,hx,e,hb,?_,?_,?_,?_,h1,h2,h3⟩
 ·have:=hr 0 _ rfl
  simpa [Zd] using this
 ·have:=hr 1 _ rfl
  simpa [Zd] using this
 ·have:=hr 2 _ rfl
  simpa [Zd] using this
 ·have:=hr 3 _ rfl
  simpa [Zd] using this
end Go.Proofs.YtcooobnaocbdjaaGreatDoor

end

/-! YtcooobnaocbdjaaGreatDoorPStgS -/
section
set_option maxRecDepth 100000
set_option linter.unusedSimpArgs false
set_option linter.unusedVariables false
namespace Go.Proofs.YtcooobnaocbdjaaGreatDoor
open Go.RowKit Go.Sort
theorem Qa7 (w:World) (a:Option Addr) (n c:Nat) (l:List Qx) (m:Int) (h:Qb Qc (Qf w.heap.size) w a n l) (hn:n<=1048576) :
  Calls Tryz.prog 12 #[.slice a n c,.int .i64 m] w fun e w'=>e = .returned (.int .i64 (Qar l m))/\w=w':=by
 obtain ⟨R,hR⟩ : ∃ R,Qar l m=R:=⟨_,rfl⟩
 rw [hR]
 have HL:=Lib.hid h
 have HLEN:=Lib.hid h.1
 have HR:=Lib.hid hR
 clear h hR
 go_enter Tryz.func12,Tryz.ntmps12
 go_wp2_with fail
 go_loop [5] (fun i => ∃ k:Nat,k<=n/\i = .int .i64 k/\Hid (∀ (j:Nat) (x:Qx),j<k->l[j]? = some x->x.1≠m)) (fun i=>n-(intOf i).toNat)
 case atStart=>exact ⟨0,Nat.zero_le _,rfl,Lib.hid fun j x hj=>absurd hj (Nat.not_lt_zero _)⟩
 case round =>
  obtain ⟨k,hk,rfl,hall⟩:=hrel
  by_cases hlt:k<n
  ·obtain ⟨b,o,x,ax,nx,cx,hx,rfl,-,hc0,hc1,-,-,-⟩:=Qcq HL.out k hlt
   obtain ⟨M,hM⟩ : ∃ M,x.1=M:=⟨_,rfl⟩
   rw [hM] at hc0
   have HX:=Lib.hid hx
   have HM:=Lib.hid hM
   clear hx hM hc1
   by_cases he:M=m
   ·have g0:(M == m)=true:=beq_iff_eq.2 he
    obtain rfl:R=(k:Int):=by rw [<- HR.out];exact Qpo HX.out (HM.out.trans he) hall.out
    clear he
    go_wp2_with fail
    go_ret
    exact ⟨rfl,rfl⟩
   ·have g0:(M == m)=false:=beq_eq_false_iff_ne.2 he
    have HE:=Lib.hid he
    clear he
    go_wp2_with fail
    go_round
    case rel =>
     refine ⟨k+1,by omega,by go_num,Lib.hid fun j y hj hy => ?_⟩
     by_cases e:j=k
     ·subst e
      rw [HX.out] at hy
      cases hy
      rw [HM.out]
      exact HE.out
     ·exact hall.out j y (by omega) hy
    case measure=>simp [intOf];omega
  ·obtain rfl:k=n:=by omega
   obtain rfl:R = -1:=by
    rw [<- HR.out]
    exact Ql6 fun j x hx=>hall.out j x (by rw [<- HLEN.out];exact (List.getElem?_eq_some_iff.1 hx).1) hx
   go_wp2_with fail
   go_ret
   exact ⟨rfl,rfl⟩
theorem Qcr (w:World) (a:Option Addr) (n c:Nat) (xs:List Int) (N:Int) (h:IntsIn w.heap.size w a n xs) :
  Calls Tryz.prog 47 #[.slice a n c,.int .i64 N] w fun e w'=>e = .returned (.bool (Qae xs N))/\w=w':=by
 have hroom:=h.room
 have hl:=h.len
 have HC:=Lib.hid (Qu w a n c xs h)
 obtain ⟨p,hp⟩ : ∃ p,Qm xs=p:=⟨_,rfl⟩
 have hR:Qae xs N=(decide (n=0) || (p && decide ((n:Int)=N))):=by unfold Qae;rw [hp,hl]
 rw [hR]
 rw [hp] at HC
 clear h hp hR hl
 by_cases h0:n=0
 ·subst h0
  go_enter Tryz.func47,Tryz.ntmps47
  go_wp2_with fail
  go_ret
  exact ⟨rfl,rfl⟩
 ·have g0:((n:Int) == 0)=false:=beq_eq_false_iff_ne.2 (by omega)
  have g1:decide (n=0)=false:=decide_eq_false h0
  have h0e:0<n:=by omega
  rw [g1,Bool.false_or]
  cases p
  ·rw [Bool.false_and]
   go_enter Tryz.func47,Tryz.ntmps47
   go_wp2_with fail
   refine HC.out.mono ?_
   rintro e w' ⟨rfl,rfl⟩
   go_wp2_with fail
   go_ret
   exact ⟨rfl,rfl⟩
  ·rw [Bool.true_and]
   go_enter Tryz.func47,Tryz.ntmps47
   go_wp2_with fail
   refine HC.out.mono ?_
   rintro e w' ⟨rfl,rfl⟩
   go_wp2_with fail
   go_ret
   exact ⟨rfl,rfl⟩
theorem Qa {w:World} {g:Nat} {cs:Array Value} {T:TypeId} (h:w.heap[g]? = some (.cells cs T (0,0))) (i:Nat) (v:Value) (hv:cs[i]? = some v):w.cell? ⟨g,i,none⟩=some v:=by
 rw [cell_of_row _ _ _ _ _ _ h]
 exact hv
end Go.Proofs.YtcooobnaocbdjaaGreatDoor

end

/-! YtcooobnaocbdjaaGreatDoorPModS -/
section
set_option maxRecDepth 100000
set_option maxHeartbeats 6400000
set_option linter.unusedVariables false
namespace Go.Proofs.YtcooobnaocbdjaaGreatDoor
open Go.RowKit Go.Sort
theorem box1 {w:World} {g:Nat} {x:Value} {T:TypeId} (h:w.heap[g]? = some (.cells #[x] T (0,0))):w.cell? ⟨g,0,none⟩=some x:=by
 rw [cell_of_row _ _ _ _ _ _ h]
 rfl
theorem Qho (w:World) (a:Option Addr) (n c:Nat) (m:List dOp) (h:Qb shOp (Qf w.heap.size) w a n m) (hc1:n<=c) (hc2:c<=9223372036854775807) (hb:(Shape.list shOp).bulk m<=1048576) :
  Calls Tryz.prog 45 #[.agg #[.slice a n c]] w fun e w'=>e = .returned (.bool (Qt m))/\Below w.heap.size w w':=by
 have hbk:=Qh shOp h
 rw [hbk] at hb
 have hn1:n<=1048576:=by omega
 have hal:Below w.heap.size w (w.alloc (.cells #[.slice a n c] 92 (0,0))):=(Below.refl _ _).alloc (Nat.le_refl _) _
 have hb0:=heap_alloc_new w (.cells #[.slice a n c] 92 (0,0))
 have hs0:w.heap.size<(w.alloc (.cells #[.slice a n c] 92 (0,0))).heap.size:=by simp
 have HL:=Lib.hid h
 have HB:=Lib.hid hb
 have HA:=Lib.hid hal
 have HB0:=Lib.hid hb0
 obtain ⟨d,hd⟩ : ∃ d,d=Qt m:=⟨_,rfl⟩
 rw [<- hd]
 have HD:=Lib.hid hd
 clear h hb hal hb0 hbk hd
 go_enter Tryz.func45,Tryz.ntmps45
 go_wp2_with fail
 generalize w.alloc (.cells #[.slice a n c] 92 (0,0))=wa at HA HB0 hs0 |-
 go_loopw [3] (fun i wr => ∃ k:Nat,k<=n/\i = .int .i64 k/\Hid (∀ j,j<k->okAt m j=true)/\Below wa.heap.size wa wr) (fun i _=>n-(intOf i).toNat)
 case atStart=>exact ⟨0,Nat.zero_le _,rfl,Lib.hid fun j hj=>absurd hj (Nat.not_lt_zero _),Below.refl _ _⟩
 case round =>
  obtain ⟨k,hk,rfl,hall,hbw⟩:=hrel
  have hsz:=hbw.size
  have hbox:=(hbw.block w.heap.size hs0).trans HB0.out
  have hbx:=box1 hbox
  have hww:Below w.heap.size w wr:=HA.out.trans (hbw.mono HA.out.size)
  by_cases hlt:k<n
  ·obtain ⟨x,hx⟩ : ∃ x,m[k]? = some x:=⟨_,List.getElem?_eq_getElem (by rw [HL.out.1];exact hlt)⟩
   obtain ⟨b,o,es,rfl,hbB,hr,hs⟩:=HL.out.2 k x hx
   have hrr:=Qr hr (show b<w.heap.size from hbB) (Kept.of_below (I:=Qf w.heap.size) hww fun b hb=>hb)
   have hsw:=shOp.below hs hww (Nat.le_refl _)
   have hbx':shOp.bulk x<=1048576:=by have h1:=Qz shOp.bulk m k x hx;have h2:=HB.out;omega
   rw [Z6,Ql] at hbx'
   obtain ⟨ae,ne,ce,rfl,ge,le,me⟩:=Q3.1 hsw
   have HC:=Lib.hid fun (w1:World) (hb1:Below wa.heap.size wr w1)=>Qej w1 x.1 x.2.1 x.2.2.1 ae ne ce x.2.2.2 (((me.below (hb1.mono HA.out.size) (Nat.le_refl _)).ints (by rw [<- me.1];exact hbx')).le (Nat.le_trans HA.out.size (Nat.le_trans hsz hb1.size)))
   rw [Zd] at hrr
   have c0:=hrr 0 _ rfl
   have c1:=hrr 1 _ rfl
   have c2:=hrr 2 _ rfl
   have c3:=hrr 3 _ rfl
   simp only [Nat.add_zero] at c0
   obtain ⟨p,hp⟩ : ∃ p,Jz x.1 x.2.1 x.2.2.1 x.2.2.2=p:=⟨_,rfl⟩
   simp only [hp] at HC
   have HX:=Lib.hid hx
   have HP:Hid (Ql3 x=p):=Lib.hid hp
   have HBW:=Lib.hid hbw
   clear hr hrr hs hsw me hx hp hbw hbx' hww
   cases p
   ·have hdf:d=false:=by rw [HD.out];exact Qgu (by rw [HL.out.1];exact hlt) (Qk2 HX.out HP.out)
    subst hdf
    go_upto_region 4 with fail
    have kb:=cell_regrown hbx
    have k0:=cell_regrown c0
    have k1:=cell_regrown c1
    have k2:=cell_regrown c2
    have k3:=cell_regrown c3
    have cC:=fun d os=>Calls.regrown_of (w:=wr) (d:=d) (os:=os) (HC.out _ ((below_regrown wr d os).mono hsz))
    have CC:=Lib.hid cC
    clear hbx c0 c1 c2 c3 cC
    refine wp_region_quiet_below (by kernel_rfl) (by kernel_rfl) ?_
    repeat (go_big_quiet_step (with_reducible first | exact CC.out _ _))
    refine wpQuiet_nil ?_
    intro _ hw'
    obtain ⟨⟨dq,osq⟩,hw''⟩:=hw'
    subst hw''
    have hwq:=below_regrown wr dq osq
    generalize grow (redrawn wr dq) osq=w1 at hwq |-
    have HW:=Lib.hid hwq
    clear hwq k0 k1 k2 k3 kb
    go_wp2_with fail
    go_ret
    exact ⟨rfl,HA.out.trans ((HBW.out.trans (HW.out.mono hsz)).mono HA.out.size)⟩
   ·have HPT:=HP
    by_cases k0:k=0
    ·have hgt:decide ((k:Int)>0)=false:=decide_eq_false (by omega)
     have h0k : ¬ 0<k:=by omega
     have HOK:=Lib.hid (Qio (k0 ▸ HX.out) HP.out)
     have HK0:=Lib.hid k0
     clear k0
     go_upto_region 4 with fail
     have kk0:=cell_regrown hbx
     have kk1:=cell_regrown c0
     have kk2:=cell_regrown c1
     have kk3:=cell_regrown c2
     have kk4:=cell_regrown c3
     have cC0:=fun d os=>Calls.regrown_of (w:=wr) (d:=d) (os:=os) (HC.out _ ((below_regrown wr d os).mono hsz))
     have CC0:=Lib.hid cC0
     clear hbx c0 c1 c2 c3 cC0
     refine wp_region_quiet_below (by kernel_rfl) (by kernel_rfl) ?_
     repeat (go_big_quiet_step (with_reducible first | exact CC0.out _ _))
     refine wpQuiet_nil ?_
     intro _ hw'
     obtain ⟨⟨dq,osq⟩,hw''⟩:=hw'
     subst hw''
     have hwq:=below_regrown wr dq osq
     generalize grow (redrawn wr dq) osq=w1 at hwq |-
     have HW:=Lib.hid hwq
     clear hwq kk0 kk1 kk2 kk3 kk4
     go_wp2_with fail
     go_round
     case rel =>
      refine ⟨k+1,by omega,by go_num,Lib.hid fun j hj => ?_,HBW.out.trans (HW.out.mono hsz)⟩
      have hk0:=HK0.out
      obtain rfl:j=0:=by omega
      exact hk0 ▸ HOK.out
     case measure=>simp [intOf];omega
    ·obtain ⟨j,hj⟩ : ∃ j,k=j+1:=⟨k-1,by omega⟩
     have hgt:decide ((k:Int)>0)=true:=decide_eq_true (by omega)
     have h0k:0<k:=by omega
     have hw1:wrap64 ((k:Int)-1)=(j:Int):=by rw [IntWalk.wrap64_in _ (by omega)];omega
     have hw2:IntKind.i64.wrap ((k:Int)-1)=(j:Int):=by rw [IntKind.wrap_i64];omega
     have hjn:j<n:=by omega
     obtain ⟨y,hy⟩ : ∃ y,m[j]? = some y:=⟨_,List.getElem?_eq_getElem (by rw [HL.out.1];exact hjn)⟩
     obtain ⟨b',o',es',eb,hbB',hr',hs'⟩:=HL.out.2 j y hy
     cases eb
     have hww:Below w.heap.size w wr:=HA.out.trans (HBW.out.mono HA.out.size)
     have hrr':=Qr hr' (show b<w.heap.size from hbB') (Kept.of_below (I:=Qf w.heap.size) hww fun b hb=>hb)
     obtain ⟨af,nf,cf,rfl,-⟩:=Q3.1 hs'
     rw [Zd] at hrr'
     have e0:=hrr' 0 _ rfl
     have e1:=hrr' 1 _ rfl
     have e2:=hrr' 2 _ rfl
     have e3:=hrr' 3 _ rfl
     simp only [Nat.add_zero] at e0
     have HOK:=Lib.hid (Qip HX.out hy hj HP.out)
     clear hr' hrr' hs' hww hy hbB'
     have HJ:=Lib.hid hj
     clear hj k0
     by_cases hxy:x.2.1=y.2.2.1
     ·have hne:(x.2.1 != y.2.2.1)=false:=by simp [hxy]
      replace HOK:=Lib.hid (HOK.out.trans (decide_eq_true hxy))
      clear hxy
      go_upto_region 4 with fail
      have kk0:=cell_regrown hbx
      have kk1:=cell_regrown c0
      have kk2:=cell_regrown c1
      have kk3:=cell_regrown c2
      have kk4:=cell_regrown c3
      have kk5:=cell_regrown e0
      have kk6:=cell_regrown e1
      have kk7:=cell_regrown e2
      have kk8:=cell_regrown e3
      have cC0:=fun d os=>Calls.regrown_of (w:=wr) (d:=d) (os:=os) (HC.out _ ((below_regrown wr d os).mono hsz))
      have CC0:=Lib.hid cC0
      clear hbx c0 c1 c2 c3 e0 e1 e2 e3 cC0
      refine wp_region_quiet_below (by kernel_rfl) (by kernel_rfl) ?_
      repeat (go_big_quiet_step (with_reducible first | exact CC0.out _ _))
      refine wpQuiet_nil ?_
      intro _ hw'
      obtain ⟨⟨dq,osq⟩,hw''⟩:=hw'
      subst hw''
      have hwq:=below_regrown wr dq osq
      generalize grow (redrawn wr dq) osq=w1 at hwq |-
      have HW:=Lib.hid hwq
      clear hwq kk0 kk1 kk2 kk3 kk4 kk5 kk6 kk7 kk8
      go_wp2_with fail
      go_round
      case rel =>
       refine ⟨k+1,by omega,by go_num,Lib.hid fun i hi => ?_,HBW.out.trans (HW.out.mono hsz)⟩
       by_cases e:i=k
       ·subst e;exact HOK.out
       ·exact hall.out i (by omega)
      case measure=>simp [intOf];omega
     ·have hne:(x.2.1 != y.2.2.1)=true:=by simpa using hxy
      have hdf:d=false:=by rw [HD.out];exact Qgu (by rw [HL.out.1];exact hlt) (HOK.out.trans (decide_eq_false hxy))
      subst hdf
      clear hxy
      go_upto_region 4 with fail
      have kk0:=cell_regrown hbx
      have kk1:=cell_regrown c0
      have kk2:=cell_regrown c1
      have kk3:=cell_regrown c2
      have kk4:=cell_regrown c3
      have kk5:=cell_regrown e0
      have kk6:=cell_regrown e1
      have kk7:=cell_regrown e2
      have kk8:=cell_regrown e3
      have cC0:=fun d os=>Calls.regrown_of (w:=wr) (d:=d) (os:=os) (HC.out _ ((below_regrown wr d os).mono hsz))
      have CC0:=Lib.hid cC0
      clear hbx c0 c1 c2 c3 e0 e1 e2 e3 cC0
      refine wp_region_quiet_below (by kernel_rfl) (by kernel_rfl) ?_
      repeat (go_big_quiet_step (with_reducible first | exact CC0.out _ _))
      refine wpQuiet_nil ?_
      intro _ hw'
      obtain ⟨⟨dq,osq⟩,hw''⟩:=hw'
      subst hw''
      have hwq:=below_regrown wr dq osq
      generalize grow (redrawn wr dq) osq=w1 at hwq |-
      have HW:=Lib.hid hwq
      clear hwq kk0 kk1 kk2 kk3 kk4 kk5 kk6 kk7 kk8
      go_wp2_with fail
      go_ret
      exact ⟨rfl,HA.out.trans ((HBW.out.trans (HW.out.mono hsz)).mono HA.out.size)⟩
  ·obtain rfl:k=n:=by omega
   have hdd:inB 1 8 (k:Int)=d:=by
    rw [HD.out,<- HL.out.1]
    exact (Qj3 (fun j hj=>hall.out j (by rw [<- HL.out.1];exact hj))).symm
   have HE:=Lib.hid hdd
   have HWW:=Lib.hid hww
   clear hdd hbw hww hbox
   go_wp2_with fail
   refine (Qag _ _ _ _).mono ?_
   rintro e w' ⟨rfl,rfl⟩
   go_wp2_with fail
   go_ret
   exact ⟨by rw [HE.out] <;> rfl,HWW.out⟩
end Go.Proofs.YtcooobnaocbdjaaGreatDoor

end
