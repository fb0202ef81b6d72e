import Derived.Test.YtcooobnaocbdjaaGreatDoorJoin10
import Derived.Test.YtcooobnaocbdjaaGreatDoorJoin14
import Derived.Lib.QuietBelow
import Derived.Deep.QuietTactic
import Derived.BigQuiet
set_option maxRecDepth 100000
set_option maxHeartbeats 6400000
set_option linter.unusedSimpArgs false
set_option linter.unusedVariables false
namespace Go.Proofs.YtcooobnaocbdjaaGreatDoor
open Go.RowKit Go.Sort
theorem Qb6 (w:World) (es:List Value) (s:Qq) (h:Qd.reads (Qf w.heap.size) w es s) (hb:Qd.bulk s<=1048576) :
  Calls Tryz.prog 10 #[.agg es.toArray] w fun e w'=>e = .returned (.bool (Q4 s))/\Below w.heap.size w w':=by
 obtain ⟨a0,n0,c0,a1,n1,c1,a2,n2,c2,a3,n3,c3,a4,n4,c4,a5,n5,c5,a6,n6,c6,a7,n7,c7,a8,n8,c8,rfl,⟨p0,r0,l0⟩,⟨p1,r1,l1⟩,⟨-,-,l2⟩,-,⟨-,-,l4⟩,⟨-,-,l5⟩,⟨-,-,l6⟩,⟨-,-,l7⟩,⟨-,-,l8⟩⟩:=Qn.1 h
 have hbo:(Shape.list shOp).bulk (opsS s)<=1048576:=by rw [Q2] at hb;show (Shape.list shOp).bulk s.2.2.1<=_;omega
 rw [Q2,Qdm,Qh shOp l1,Qh Qc l2,Qh Qi l8,Ql,Ql,Ql,Ql,l0.1,l4.1,l5.1,l6.1,l7.1] at hb
 obtain ⟨R,hR⟩ : ∃ R,Q4 s=R:=⟨_,rfl⟩
 rw [hR]
 obtain ⟨q0,hq0⟩ : ∃ q,s.1=q:=⟨_,rfl⟩
 obtain ⟨q3,hq3⟩ : ∃ q,s.2.2.2.1=q:=⟨_,rfl⟩
 obtain ⟨redo,hq4⟩ : ∃ q,s.2.2.2.2.1=q:=⟨_,rfl⟩
 obtain ⟨q12,hq12⟩ : ∃ q,s.2.2.2.2.2.2.2.2.2.2.2.2.1=q:=⟨_,rfl⟩
 obtain ⟨q13,hq13⟩ : ∃ q,s.2.2.2.2.2.2.2.2.2.2.2.2.2=q:=⟨_,rfl⟩
 rw [hq0,hq3,hq4,hq12,hq13]
 have hal:Below w.heap.size w (w.alloc (.cells #[.int .i64 q0,.slice a0 n0 c0,.slice a1 n1 c1,.bool q3,.bool redo,.slice a2 n2 c2,.slice a3 n3 c3,.slice a4 n4 c4,.slice a5 n5 c5,.slice a6 n6 c6,.slice a7 n7 c7,.slice a8 n8 c8,.int .i64 q12,.bool q13] 32 (0,0))):=(Below.refl _ _).alloc (Nat.le_refl _) _
 have hk0:=heap_alloc_new w (.cells #[.int .i64 q0,.slice a0 n0 c0,.slice a1 n1 c1,.bool q3,.bool redo,.slice a2 n2 c2,.slice a3 n3 c3,.slice a4 n4 c4,.slice a5 n5 c5,.slice a6 n6 c6,.slice a7 n7 c7,.slice a8 n8 c8,.int .i64 q12,.bool q13] 32 (0,0))
 have hn0:n0<=1048576:=by omega
 have hn1:n1<=1048576:=by omega
 have hn2:n2<=1048576:=by omega
 have hn4:n4<=1048576:=by omega
 have hn5:n5<=1048576:=by omega
 have hn6:n6<=1048576:=by omega
 have hn7:n7<=1048576:=by omega
 have hn8:n8<=1048576:=by omega
 have HBS:Hid (Shape.sum Qc.bulk (Zc s)<=1048576):=Lib.hid (by show Shape.sum Qc.bulk s.2.2.2.2.2.1<=_;omega)
 have HBO:Hid (Shape.sum shOp.bulk (opsS s)<=1048576):=Lib.hid (by show Shape.sum shOp.bulk s.2.2.1<=_;omega)
 have HBR:Hid (Shape.sum Qi.bulk (sumS s).1<=1048576):=Lib.hid (by show Shape.sum Qi.bulk s.2.2.2.2.2.2.2.2.2.2.2.1<=_;omega)
 have HM:Hid (∀ (wx:World),Below w.heap.size w wx->Qa3.reads (Qf wx.heap.size) wx [.slice a1 n1 c1] (opsS s)):=Lib.hid fun wx hx=>Ji.2 ⟨_,_,_,rfl,p1,r1,(l1.below hx (Nat.le_refl _)).le hx.size⟩
 have HHX:=Lib.hid fun (wx:World) (hx:Below w.heap.size w wx) (N:Int)=>Qcr wx a4 n4 c4 (xS s) N (((l4.ints hn4).below hx (Nat.le_refl _)).le hx.size)
 have HHY:=Lib.hid fun (wx:World) (hx:Below w.heap.size w wx) (N:Int)=>Qcr wx a5 n5 c5 (yS s) N (((l5.ints hn5).below hx (Nat.le_refl _)).le hx.size)
 have HHG:=Lib.hid fun (wx:World) (hx:Below w.heap.size w wx) (N:Int)=>Qcr wx a6 n6 c6 (gS s) N (((l6.ints hn6).below hx (Nat.le_refl _)).le hx.size)
 have HHD:=Lib.hid fun (wx:World) (hx:Below w.heap.size w wx) (N:Int)=>Qcr wx a7 n7 c7 (dS s) N (((l7.ints hn7).below hx (Nat.le_refl _)).le hx.size)
 have L0:Hid ((Qfg s).length=n0):=Lib.hid l0.1
 have L1:Hid (Qb shOp (Qf w.heap.size) w a1 n1 (opsS s)):=Lib.hid l1
 have L2:Hid (Qb Qc (Qf w.heap.size) w a2 n2 (Zc s)):=Lib.hid l2
 have L8:Hid (Qb Qi (Qf w.heap.size) w a8 n8 (sumS s).1):=Lib.hid l8
 have HR:=Lib.hid hR
 have HQ0:Hid (pcS s=q0):=Lib.hid hq0
 have HQ4:Hid (Qb3 s=redo):=Lib.hid hq4
 have HA:=Lib.hid hal
 have K0:=Lib.hid hk0
 obtain ⟨p,hp⟩ : ∃ p,Qt (opsS s)=p:=⟨_,rfl⟩
 have HP:=Lib.hid hp
 have HBOL:=Lib.hid hbo
 clear hR hq0 hq3 hq4 hq12 hq13 hal hk0 h l0 l1 l2 l4 l5 l6 l7 l8 hb hp hbo
 go_enter Tryz.func10,Tryz.ntmps10
 go_upto_region 1 with fail
 generalize w.alloc (.cells #[.int .i64 q0,.slice a0 n0 c0,.slice a1 n1 c1,.bool q3,.bool redo,.slice a2 n2 c2,.slice a3 n3 c3,.slice a4 n4 c4,.slice a5 n5 c5,.slice a6 n6 c6,.slice a7 n7 c7,.slice a8 n8 c8,.int .i64 q12,.bool q13] 32 (0,0))=wa at HA K0 |-
 have CELLS:=Lib.hid fun (wx:World) (hx:Below wa.heap.size wa wx)=>(show wx.heap[w.heap.size]? = _ from (hx.block _ (Array.getElem?_eq_some_iff.1 K0.out).1).trans K0.out)
 have HOK:=Lib.hid (Qhz wa [.slice a1 n1 c1] (opsS s) (HM.out wa HA.out) (by rw [Qei];exact HBOL.out))
 rw [HP.out] at HOK
 have z2:=Qa K0.out 2 _ rfl
 cases p
 ·obtain rfl:R=false:=by rw [<- HR.out];exact Qaj HP.out
  go_wp2_with fail
  refine HOK.out.mono ?_
  rintro e w1 ⟨rfl,hb⟩
  have HF:=Lib.hid (HA.out.trans (hb.mono HA.out.size))
  clear hb z2
  go_wp2_with fail
  go_ret
  exact ⟨rfl,HF.out⟩
 ·obtain ⟨q,hq⟩ : ∃ q,inB 0 (n0:Int) q0=q:=⟨_,rfl⟩
  have HIN:=Lib.hid fun (wx:World)=>Qag q0 0 (n0:Int) wx
  simp only [hq] at HIN
  have HQ:=Lib.hid hq
  clear hq
  cases q
  ·obtain rfl:R=false:=by rw [<- HR.out];exact Qd7 (by rw [L0.out,HQ0.out];exact HQ.out)
   go_wp2_with fail
   refine HOK.out.mono ?_
   rintro e w1 ⟨rfl,hb⟩
   have HF:=Lib.hid (HA.out.trans (hb.mono HA.out.size))
   have z0:=Qa (CELLS.out w1 hb) 0 _ rfl
   have z1:=Qa (CELLS.out w1 hb) 1 _ rfl
   clear hb z2
   go_wp2_with fail
   refine (HIN.out _).mono ?_
   rintro e w2 ⟨rfl,rfl⟩
   go_wp2_with fail
   go_ret
   exact ⟨rfl,HF.out⟩
  ·by_cases hne:n8=n1
   ·subst hne
    obtain ⟨-,hlo,hhi⟩:=Z4 HP.out
    rw [L1.out.1] at hlo hhi
    obtain ⟨N,hN⟩ : ∃ N:Nat,N=n8-1:=⟨_,rfl⟩
    have hw1:wrap64 ((n8:Int)-1)=(N:Int):=by rw [IntWalk.wrap64_in _ (by omega)];omega
    have hw2:(n8:Int)-1=(N:Int):=by omega
    have hNn:N<n8:=by omega
    obtain ⟨b,o,x0,ax0,nx0,cx0,hx0,rfl,hbB,-,hi1,-,-,-,-,-⟩:=Qds L1.out 0 (by omega)
    obtain ⟨b',o',xl,axl,nxl,cxl,hxl,eb,-,-,-,hl2,-,-,-,-⟩:=Qds L1.out N hNn
    cases eb
    have hII:Qca (opsS s)=x0.2.1:=by unfold Qca;rw [HP.out,if_pos rfl,Zf hx0]
    have hOO:Qa6 (opsS s)=xl.2.2.1:=by unfold Qa6;rw [HP.out,if_pos rfl,L1.out.1,<- hN,Zf hxl]
    obtain ⟨I,hI⟩ : ∃ I,x0.2.1=I:=⟨_,rfl⟩
    obtain ⟨O,hO⟩ : ∃ O,xl.2.2.1=O:=⟨_,rfl⟩
    have hI0:(opAt (opsS s) 0).2.1=I:=by rw [Zf hx0,hI]
    rw [hI] at hII hi1
    rw [hO] at hOO hl2
    rw [Nat.zero_mul,Nat.add_zero] at hi1
    have HII:=Lib.hid hII
    have HOO:=Lib.hid hOO
    have HI0:=Lib.hid hI0
    clear hN hx0 hxl hII hOO hI hO hI0
    go_wp2_with fail
    refine HOK.out.mono ?_
    rintro e w1 ⟨rfl,hb⟩
    have HB1:=Lib.hid hb
    have z0:=Qa (CELLS.out w1 hb) 0 _ rfl
    have z1:=Qa (CELLS.out w1 hb) 1 _ rfl
    have z2':=Qa (CELLS.out w1 hb) 2 _ rfl
    have z11:=Qa (CELLS.out w1 hb) 11 _ rfl
    have hAB:=HA.out.trans (hb.mono HA.out.size)
    have d1:=(hAB.cell (p:=⟨b,o+1,none⟩) hbB).trans hi1
    have d2:=(hAB.cell (p:=⟨b,o+N*4+2,none⟩) hbB).trans hl2
    clear hb z2 hAB hi1 hl2 HOK
    go_wp2_with fail
    refine (HIN.out _).mono ?_
    rintro e w2 ⟨rfl,rfl⟩
    go_wp2_with fail
    clear z0 z1 z2' z11 d1 d2 HIN
    go_loopw [5] (fun i wr => ∃ k:Nat,k<=n8/\i = .int .i64 k/\Hid (∀ j,j<k->Qcg s j=true)/\Below wa.heap.size wa wr) (fun i _=>n8-(intOf i).toNat)
    case atStart=>exact ⟨0,Nat.zero_le _,rfl,Lib.hid fun j hj=>absurd hj (Nat.not_lt_zero _),HB1.out⟩
    case round =>
     obtain ⟨k,hk,rfl,hall,hbw⟩:=hrel
     have z2:=Qa (CELLS.out wr hbw) 2 _ rfl
     by_cases hlt:k<n8
     ·obtain ⟨b2,o2,y,ay,ny,cy,hy,rfl,hbB2,hr0,-,-,hly⟩:=Qch L8.out k hlt
      obtain ⟨b',o',x,ax,nx,cx,hx,eb,-,-,-,-,hc3,-,-,hlx⟩:=Qds L1.out k hlt
      cases eb
      have hww:=HA.out.trans (hbw.mono HA.out.size)
      have e3:=(hww.cell (p:=⟨b,o+k*4+3,none⟩) hbB).trans hc3
      have e0:=(hww.cell (p:=⟨b2,o2+k,none⟩) hbB2).trans hr0
      have z11:=Qa (CELLS.out wr hbw) 11 _ rfl
      have hny:ny<=1048576:=by have h1:=Qz Qi.bulk _ k y hy;rw [Zs,Ql,hly.1] at h1;have:=HBR.out;omega
      have hnx:nx<=1048576:=by have h1:=Qz shOp.bulk _ k x hx;rw [Z6,Ql,hlx.1] at h1;have:=HBO.out;omega
      have hsr:Qcg s k=decide (ny=nx):=by unfold Qcg;rw [Qcf hy,Zf hx,hly.1,hlx.1]
      have HSR:=Lib.hid hsr
      have HBW:=Lib.hid hbw
      clear hy hx hly hlx hc3 hr0 hww hbw hsr
      by_cases hne:ny=nx
      ·subst hne
       go_upto_region 8 with fail
       go_quiet (fail)
       have HBN:Hid (Below wa.heap.size wa (wr.drewN nq)):=Lib.hid (HBW.out.trans ⟨rfl,rfl,rfl,Nat.le_refl _,fun _ _=>rfl⟩)
       generalize wr.drewN nq=wn at HBN |-
       clear e3 e0 z2 z11
       go_wp2_with fail
       go_roundw
       case rel =>
        refine ⟨k+1,by omega,by go_num,Lib.hid fun j hj => ?_,HBN.out⟩
        by_cases e:j=k
        ·subst e
         rw [HSR.out]
         exact decide_eq_true rfl
        ·exact hall.out j (by omega)
       case measure=>simp [intOf];omega
      ·have g0:((ny:Int) != (nx:Int))=true:=by simp;omega
       have g1:((ny:Int) == (nx:Int))=false:=beq_eq_false_iff_ne.2 (by omega)
       obtain rfl:R=false:=by rw [<- HR.out];exact Qj8 (k:=k) (by rw [L1.out.1];exact hlt) (by rw [HSR.out];exact decide_eq_false hne)
       go_upto_region 8 with fail
       go_quiet (fail)
       have hqn:Below wa.heap.size wa (wr.drewN nq):=HBW.out.trans ⟨rfl,rfl,rfl,Nat.le_refl _,fun _ _=>rfl⟩
       have HBN:Hid (Below w.heap.size w (wr.drewN nq)):=Lib.hid (HA.out.trans (hqn.mono HA.out.size))
       clear hqn
       generalize wr.drewN nq=wn at HBN |-
       clear e3 e0 z2 z11
       go_wp2_with fail
       go_ret
       exact ⟨rfl,HBN.out⟩
     ·obtain rfl:n8=k:=by omega
      obtain ⟨wo,rfl⟩ : ∃ y,y=wr:=⟨_,rfl⟩
      have HBW:=Lib.hid hbw
      have HALL:=Lib.hid hall.out
      clear hbw hall
      go_wp2_with fail
      clear z2
      go_loopw [6] (fun i wr => ∃ q:Nat,q<=n2/\i = .int .i64 q/\Hid (∀ (j:Nat) (x:Qx),j<q->(Zc s)[j]? = some x->J5 redo (opsS s) x=true)/\Below wa.heap.size wa wr) (fun i _=>n2-(intOf i).toNat)
      case atStart=>exact ⟨0,Nat.zero_le _,rfl,Lib.hid fun j x hj=>absurd hj (Nat.not_lt_zero _),HBW.out⟩
      case round =>
       obtain ⟨q,hq,rfl,hall,hbw⟩:=hrel
       by_cases hqt:q<n2
       ·obtain ⟨b2,o2,x,ax,nx,cx,hx,rfl,hbB2,-,hs1,-,-,hlx⟩:=Qcq L2.out q hqt
        have hww:=HA.out.trans (hbw.mono HA.out.size)
        have e1:=(hww.cell (p:=⟨b2,o2+q*2+1,none⟩) hbB2).trans hs1
        have z5:=Qa (CELLS.out wr hbw) 5 _ rfl
        have hbx:=Qz Qc.bulk _ q x hx
        rw [Zi,Qh Qi hlx] at hbx
        have hnx:nx<=1048576:=by have:=HBS.out;omega
        have hbr:Shape.sum Qi.bulk x.2<=1048576:=by have:=HBS.out;omega
        have hno:J5 redo (opsS s) x=false->R=false:=fun e=>by rw [<- HR.out];exact Qdp hx (by rw [HQ4.out];exact e)
        have HX:=Lib.hid hx
        have HLX:=Lib.hid hlx
        have HBW2:=Lib.hid hbw
        have HWW:=Lib.hid hww
        have HBRX:=Lib.hid hbr
        have HNO:=Lib.hid hno
        clear hx hlx hbw hww hbx hs1 hbr hno
        have HFIN:=Lib.hid fun (wx:World) (hx:Below wr.heap.size wr wx)=>HWW.out.trans (hx.mono HWW.out.size)
        go_upto_region 14 with fail
        clear e1 z5
        by_cases hx0:nx=0
        ·subst hx0
         obtain rfl:R=false:=HNO.out (Qfh (by rw [HLX.out.1];cases redo <;> simp))
         go_wp2_with fail
         go_ret
         exact ⟨rfl,HWW.out⟩
        ·have g0:((nx:Int) == 0)=false:=beq_eq_false_iff_ne.2 (by omega)
         have h0e:0<nx:=by omega
         obtain ⟨b3,o3,y,ay,ny,cy,hy,rfl,hbB3,hr0,-,-,hly⟩:=Qch HLX.out 0 h0e
         have hny:ny<=1048576:=by have h1:=Qz Qi.bulk _ 0 y hy;rw [Zs,Ql,hly.1] at h1;have:=HBRX.out;omega
         have e0:=(HWW.out.cell (p:=⟨b3,o3+0,none⟩) hbB3).trans hr0
         rw [Nat.add_zero] at e0
         obtain ⟨p1,hp1⟩ : ∃ p,Qm y=p:=⟨_,rfl⟩
         have hsr:Ja (opsS s) x.2 0=(p1 && decide ((ny:Int)=I)):=by rw [Qhm hy,hp1,hly.1,HI0.out]
         have HV:=Lib.hid (Qu wr ay ny cy y (((hly.ints hny).below HWW.out (Nat.le_refl _)).le HWW.out.size))
         rw [hp1] at HV
         have HSR:=Lib.hid hsr
         clear hy hly hr0 hp1 hsr
         cases p1
         ·obtain rfl:R=false:=HNO.out (Qdr (k:=0) (by rw [HLX.out.1];exact h0e) (by rw [HSR.out];rfl))
          go_wp2_with fail
          refine HV.out.mono ?_
          rintro e w' ⟨rfl,rfl⟩
          go_wp2_with fail
          go_ret
          exact ⟨rfl,HWW.out⟩
         ·by_cases hni:(ny:Int)=I
          ·have g2:((ny:Int) != I)=false:=by simp [hni]
           have g3:((ny:Int) == I)=true:=beq_iff_eq.2 hni
           have hs0:Ja (opsS s) x.2 0=true:=by rw [HSR.out,decide_eq_true hni];rfl
           have HS0:=Lib.hid hs0
           clear hni hs0
           have z2:=Qa (CELLS.out wr HBW2.out) 2 _ rfl
           have z4:=Qa (CELLS.out wr HBW2.out) 4 _ rfl
           by_cases hW:nx=if redo=true then 1 else n8+1
           ·have HW:=Lib.hid hW
            cases redo
            ·have hW2:nx=n8+1:=by simpa using hW
             have g4:((nx:Int) != (n8:Int)+1)=false:=by simp;omega
             have g5:((nx:Int) == (n8:Int)+1)=true:=by simp;omega
             clear hW hW2
             go_wp2_with fail
             refine HV.out.mono ?_
             rintro e w' ⟨rfl,rfl⟩
             go_wp2_with fail
             obtain ⟨wp,rfl⟩ : ∃ y,y=wr:=⟨_,rfl⟩
             clear z2 z4 g4 g5 e0
             go_loopw [8] (fun j wr => ∃ m:Nat,1<=m/\m<=nx/\j = .int .i64 m/\Hid (∀ i,i<m->Ja (opsS s) x.2 i=true)/\Below wa.heap.size wa wr) (fun j _=>nx-(intOf j).toNat)
             case atStart=>exact ⟨1,Nat.le_refl _,h0e,rfl,Lib.hid fun i hi=>(show i=0 by omega) ▸ HS0.out,HBW2.out⟩
             case round =>
              obtain ⟨m,hm1,hm,rfl,hrows,hbw⟩:=hrel
              have HB4:=Lib.hid hbw
              clear hbw
              by_cases hmt:m<nx
              ·have hWn:nx=n8+1:=by have:=HW.out;simpa using this
               obtain ⟨u,hu⟩ : ∃ u,m=u+1:=⟨m-1,by omega⟩
               have hun:u<n8:=by omega
               obtain ⟨b',o',y2,ay2,ny2,cy2,hy2,eb2,-,hr2,-,-,hly2⟩:=Qch HLX.out m hmt
               cases eb2
               obtain ⟨b',o',z,az,nz,cz,hz,eb3,-,-,-,hi2,-,-,-,-⟩:=Qds L1.out u hun
               cases eb3
               have hww:=HA.out.trans (HB4.out.mono HA.out.size)
               have e5:=(hww.cell (p:=⟨b3,o3+m,none⟩) hbB3).trans hr2
               have e6:=(hww.cell (p:=⟨b,o+u*4+2,none⟩) hbB).trans hi2
               have z2:=Qa (CELLS.out wr HB4.out) 2 _ rfl
               obtain ⟨Z,hZ⟩ : ∃ Z,z.2.2.1=Z:=⟨_,rfl⟩
               rw [hZ] at e6
               have hny2:ny2<=1048576:=by have h1:=Qz Qi.bulk _ m y2 hy2;rw [Zs,Ql,hly2.1] at h1;have:=HBRX.out;omega
               obtain ⟨p2,hp2⟩ : ∃ p,Qm y2=p:=⟨_,rfl⟩
               have hs2:Ja (opsS s) x.2 m=(p2 && decide ((ny2:Int)=Z)):=by rw [hu,Qhn (by rw [<- hu];exact hy2) hz,hp2,hly2.1,hZ]
               have HV2:=Lib.hid fun (wx:World) (hx:Below wr.heap.size wr wx)=>(Qu wx ay2 ny2 cy2 y2 (((hly2.ints hny2).below (hww.trans (hx.mono hww.size)) (Nat.le_refl _)).le (Nat.le_trans hww.size hx.size))).mono (fun e w' (h:e = .returned (.bool (Qm y2))/\wx=w')=>(show e = .returned (.bool (Qm y2))/\Below wx.heap.size wx w' from ⟨h.1,h.2 ▸ Below.refl _ _⟩))
               simp only [hp2] at HV2
               have hwa:wrap64 ((m:Int)-1)=(u:Int):=by rw [IntWalk.wrap64_in _ (by omega)];omega
               have hwb:IntKind.i64.wrap ((m:Int)-1)=(u:Int):=by rw [IntKind.wrap_i64];omega
               have hwc:(m:Int)-1=(u:Int):=by omega
               have HS2:=Lib.hid hs2
               have HU:=Lib.hid hu
               clear hy2 hly2 hz hr2 hi2 hZ hp2 hs2 hww hu hWn
               cases p2
               ·obtain rfl:R=false:=HNO.out (Qdr (k:=m) (by rw [HLX.out.1];exact hmt) (by rw [HS2.out];rfl))
                go_upto_region 19 with fail
                have k5:=cell_regrown e5
                have k6:=cell_regrown e6
                have k2:=cell_regrown z2
                have cC:=fun d os=>Calls.regrown_of (w:=wr) (d:=d) (os:=os) (HV2.out _ (below_regrown wr d os))
                have CC:=Lib.hid cC
                clear e5 e6 z2 cC HV2
                refine wp_region_quiet_below (by kernel_rfl) (by kernel_rfl) ?_
                repeat (go_big_quiet_step (with_reducible first | exact CC.out _ _))
                refine wpQuiet_nil ?_
                intro _ hw'
                obtain ⟨⟨dq,osq⟩,hw''⟩:=hw'
                subst hw''
                have hwq:=below_regrown wr dq osq
                generalize grow (redrawn wr dq) osq=wn at hwq |-
                have HBN:=Lib.hid (HB4.out.trans (hwq.mono HB4.out.size))
                clear hwq k5 k6 k2 CC
                have HFF:=Lib.hid (HA.out.trans (HBN.out.mono HA.out.size))
                go_wp2_with fail
                go_ret
                exact ⟨rfl,HFF.out⟩
               ·by_cases hnz:(ny2:Int)=Z
                ·have g6:((ny2:Int) != Z)=false:=by simp [hnz]
                 have g7:((ny2:Int) == Z)=true:=beq_iff_eq.2 hnz
                 have hs3:Ja (opsS s) x.2 m=true:=by rw [HS2.out,decide_eq_true hnz];rfl
                 have HS3:=Lib.hid hs3
                 clear hnz hs3
                 go_upto_region 19 with fail
                 have k5:=cell_regrown e5
                 have k6:=cell_regrown e6
                 have k2:=cell_regrown z2
                 have cC:=fun d os=>Calls.regrown_of (w:=wr) (d:=d) (os:=os) (HV2.out _ (below_regrown wr d os))
                 have CC:=Lib.hid cC
                 clear e5 e6 z2 cC HV2
                 refine wp_region_quiet_below (by kernel_rfl) (by kernel_rfl) ?_
                 repeat (go_big_quiet_step (with_reducible first | exact CC.out _ _))
                 refine wpQuiet_nil ?_
                 intro _ hw'
                 obtain ⟨⟨dq,osq⟩,hw''⟩:=hw'
                 subst hw''
                 have hwq:=below_regrown wr dq osq
                 generalize grow (redrawn wr dq) osq=wn at hwq |-
                 have HBN:=Lib.hid (HB4.out.trans (hwq.mono HB4.out.size))
                 clear hwq k5 k6 k2 CC
                 go_wp2_with fail
                 go_roundw
                 case rel =>
                  refine ⟨m+1,by omega,by omega,by go_num,Lib.hid fun i hi => ?_,HBN.out⟩
                  by_cases e:i=m
                  ·subst e
                   exact HS3.out
                  ·exact hrows.out i (by omega)
                 case measure=>simp [intOf];omega
                ·have g6:((ny2:Int) != Z)=true:=by simp [hnz]
                 have g7:((ny2:Int) == Z)=false:=beq_eq_false_iff_ne.2 hnz
                 obtain rfl:R=false:=HNO.out (Qdr (k:=m) (by rw [HLX.out.1];exact hmt) (by rw [HS2.out];rw [decide_eq_false hnz];rfl))
                 go_upto_region 19 with fail
                 have k5:=cell_regrown e5
                 have k6:=cell_regrown e6
                 have k2:=cell_regrown z2
                 have cC:=fun d os=>Calls.regrown_of (w:=wr) (d:=d) (os:=os) (HV2.out _ (below_regrown wr d os))
                 have CC:=Lib.hid cC
                 clear e5 e6 z2 cC HV2
                 refine wp_region_quiet_below (by kernel_rfl) (by kernel_rfl) ?_
                 repeat (go_big_quiet_step (with_reducible first | exact CC.out _ _))
                 refine wpQuiet_nil ?_
                 intro _ hw'
                 obtain ⟨⟨dq,osq⟩,hw''⟩:=hw'
                 subst hw''
                 have hwq:=below_regrown wr dq osq
                 generalize grow (redrawn wr dq) osq=wn at hwq |-
                 have HBN:=Lib.hid (HB4.out.trans (hwq.mono HB4.out.size))
                 clear hwq k5 k6 k2 CC
                 have HFF:=Lib.hid (HA.out.trans (HBN.out.mono HA.out.size))
                 go_wp2_with fail
                 go_ret
                 exact ⟨rfl,HFF.out⟩
              ·obtain rfl:nx=m:=by omega
               have hall2:J5 false (opsS s) x=true:=Qix (by rw [HLX.out.1,L1.out.1];exact HW.out) (fun j hj=>hrows.out j (by rw [<- HLX.out.1];exact hj))
               have HALL2:=Lib.hid hall2
               clear hall2 hrows
               go_wp2_with fail
               go_roundw
               case rel =>
                refine ⟨q+1,by omega,by go_num,Lib.hid fun j y hj hy => ?_,HB4.out⟩
                by_cases e:j=q
                ·subst e
                 rw [HX.out] at hy
                 cases hy
                 exact HALL2.out
                ·exact hall.out j y (by omega) hy
               case measure=>simp [intOf];omega
            ·have hW2:nx=1:=by simpa using hW
             have g4:((nx:Int) != 1)=false:=by simp;omega
             have g5:((nx:Int) == 1)=true:=by simp;omega
             clear hW hW2
             go_wp2_with fail
             refine HV.out.mono ?_
             rintro e w' ⟨rfl,rfl⟩
             go_wp2_with fail
             obtain ⟨wp,rfl⟩ : ∃ y,y=wr:=⟨_,rfl⟩
             clear z2 z4 g4 g5 e0
             go_loopw [8] (fun j wr => ∃ m:Nat,1<=m/\m<=nx/\j = .int .i64 m/\Hid (∀ i,i<m->Ja (opsS s) x.2 i=true)/\Below wa.heap.size wa wr) (fun j _=>nx-(intOf j).toNat)
             case atStart=>exact ⟨1,Nat.le_refl _,h0e,rfl,Lib.hid fun i hi=>(show i=0 by omega) ▸ HS0.out,HBW2.out⟩
             case round =>
              obtain ⟨m,hm1,hm,rfl,hrows,hbw⟩:=hrel
              have HB4:=Lib.hid hbw
              clear hbw
              by_cases hmt:m<nx
              ·exact absurd HW.out (by simp;omega)
              ·obtain rfl:nx=m:=by omega
               have hall2:J5 true (opsS s) x=true:=Qix (by rw [HLX.out.1,L1.out.1];exact HW.out) (fun j hj=>hrows.out j (by rw [<- HLX.out.1];exact hj))
               have HALL2:=Lib.hid hall2
               clear hall2 hrows
               go_wp2_with fail
               go_roundw
               case rel =>
                refine ⟨q+1,by omega,by go_num,Lib.hid fun j y hj hy => ?_,HB4.out⟩
                by_cases e:j=q
                ·subst e
                 rw [HX.out] at hy
                 cases hy
                 exact HALL2.out
                ·exact hall.out j y (by omega) hy
               case measure=>simp [intOf];omega
           ·cases redo
            ·have hW2:nx≠n8+1:=by simpa using hW
             have g4:((nx:Int) != (n8:Int)+1)=true:=by simp;omega
             have g5:((nx:Int) == (n8:Int)+1)=false:=by simp;omega
             obtain rfl:R=false:=HNO.out (Qfh (by rw [HLX.out.1,L1.out.1];exact hW))
             clear hW hW2
             go_wp2_with fail
             refine HV.out.mono ?_
             rintro e w' ⟨rfl,rfl⟩
             go_wp2_with fail
             go_ret
             exact ⟨rfl,HWW.out⟩
            ·have hW2:nx≠1:=by simpa using hW
             have g4:((nx:Int) != 1)=true:=by simp;omega
             have g5:((nx:Int) == 1)=false:=by simp;omega
             obtain rfl:R=false:=HNO.out (Qfh (by rw [HLX.out.1,L1.out.1];exact hW))
             clear hW hW2
             go_wp2_with fail
             refine HV.out.mono ?_
             rintro e w' ⟨rfl,rfl⟩
             go_wp2_with fail
             go_ret
             exact ⟨rfl,HWW.out⟩
          ·have g2:((ny:Int) != I)=true:=by simp [hni]
           have g3:((ny:Int) == I)=false:=beq_eq_false_iff_ne.2 hni
           obtain rfl:R=false:=HNO.out (Qdr (k:=0) (by rw [HLX.out.1];exact h0e) (by rw [HSR.out,decide_eq_false hni];rfl))
           clear hni
           go_wp2_with fail
           refine HV.out.mono ?_
           rintro e w' ⟨rfl,rfl⟩
           go_wp2_with fail
           go_ret
           exact ⟨rfl,HWW.out⟩
       ·obtain rfl:n2=q:=by omega
        have hww:=HA.out.trans (hbw.mono HA.out.size)
        have h5 : ∀ (j:Nat) (x:Qx),(Zc s)[j]? = some x->J5 (Qb3 s) (opsS s) x=true:=fun j x hx=>by
         rw [HQ4.out]
         exact hall.out j x (by rw [<- L2.out.1];exact (List.getElem?_eq_some_iff.1 hx).1) hx
        have hrr:R=Qgz s:=by
         rw [<- HR.out]
         exact Qdq HP.out (by rw [L0.out,HQ0.out];exact HQ.out) (by rw [L8.out.1,L1.out.1]) (fun j hj=>HALL.out j (by rw [<- L1.out.1];exact hj)) h5
        unfold Qgz at hrr
        rw [HII.out,HOO.out] at hrr
        obtain ⟨b1,hb1⟩ : ∃ b,Qae (xS s) I=b:=⟨_,rfl⟩
        obtain ⟨b2,hb2⟩ : ∃ b,Qae (yS s) O=b:=⟨_,rfl⟩
        obtain ⟨b3,hb3⟩ : ∃ b,Qae (gS s) O=b:=⟨_,rfl⟩
        obtain ⟨b4,hb4⟩ : ∃ b,Qae (dS s) I=b:=⟨_,rfl⟩
        rw [hb1,hb2,hb3,hb4] at hrr
        have c1:=HHX.out wr hww I
        have c2:=HHY.out wr hww O
        have c3:=HHG.out wr hww O
        have c4:=HHD.out wr hww I
        rw [hb1] at c1
        rw [hb2] at c2
        rw [hb3] at c3
        rw [hb4] at c4
        have C1:=Lib.hid c1
        have C2:=Lib.hid c2
        have C3:=Lib.hid c3
        have C4:=Lib.hid c4
        have HRR:=Lib.hid hrr
        have HWW:=Lib.hid hww
        have z5:=Qa (CELLS.out wr hbw) 5 _ rfl
        have z7:=Qa (CELLS.out wr hbw) 7 _ rfl
        have z8:=Qa (CELLS.out wr hbw) 8 _ rfl
        have z9:=Qa (CELLS.out wr hbw) 9 _ rfl
        have z10:=Qa (CELLS.out wr hbw) 10 _ rfl
        clear hrr hww c1 c2 c3 c4 hb1 hb2 hb3 hb4 hbw hall h5
        cases b1
        ·go_wp2_with fail
         refine C1.out.mono ?_
         rintro e w' ⟨rfl,rfl⟩
         go_wp2_with fail
         go_ret
         exact ⟨by rw [HRR.out];rfl,HWW.out⟩
        ·cases b2
         ·go_wp2_with fail
          refine C1.out.mono ?_
          rintro e w' ⟨rfl,rfl⟩
          go_wp2_with fail
          refine C2.out.mono ?_
          rintro e w' ⟨rfl,rfl⟩
          go_wp2_with fail
          go_ret
          exact ⟨by rw [HRR.out];rfl,HWW.out⟩
         ·cases b3
          ·go_wp2_with fail
           refine C1.out.mono ?_
           rintro e w' ⟨rfl,rfl⟩
           go_wp2_with fail
           refine C2.out.mono ?_
           rintro e w' ⟨rfl,rfl⟩
           go_wp2_with fail
           refine C3.out.mono ?_
           rintro e w' ⟨rfl,rfl⟩
           go_wp2_with fail
           go_ret
           exact ⟨by rw [HRR.out];rfl,HWW.out⟩
          ·cases b4
           ·go_wp2_with fail
            refine C1.out.mono ?_
            rintro e w' ⟨rfl,rfl⟩
            go_wp2_with fail
            refine C2.out.mono ?_
            rintro e w' ⟨rfl,rfl⟩
            go_wp2_with fail
            refine C3.out.mono ?_
            rintro e w' ⟨rfl,rfl⟩
            go_wp2_with fail
            refine C4.out.mono ?_
            rintro e w' ⟨rfl,rfl⟩
            go_wp2_with fail
            go_ret
            exact ⟨by rw [HRR.out];rfl,HWW.out⟩
           ·go_wp2_with fail
            refine C1.out.mono ?_
            rintro e w' ⟨rfl,rfl⟩
            go_wp2_with fail
            refine C2.out.mono ?_
            rintro e w' ⟨rfl,rfl⟩
            go_wp2_with fail
            refine C3.out.mono ?_
            rintro e w' ⟨rfl,rfl⟩
            go_wp2_with fail
            refine C4.out.mono ?_
            rintro e w' ⟨rfl,rfl⟩
            go_wp2_with fail
            go_ret
            exact ⟨by rw [HRR.out];rfl,HWW.out⟩
   ·obtain rfl:R=false:=by rw [<- HR.out];exact Qek (by rw [L8.out.1,L1.out.1];exact hne)
    have g0:((n8:Int) != (n1:Int))=true:=by simp;omega
    have g1:((n8:Int) == (n1:Int))=false:=beq_eq_false_iff_ne.2 (by omega)
    go_wp2_with fail
    refine HOK.out.mono ?_
    rintro e w1 ⟨rfl,hb⟩
    have HF:=Lib.hid (HA.out.trans (hb.mono HA.out.size))
    have z0:=Qa (CELLS.out w1 hb) 0 _ rfl
    have z1:=Qa (CELLS.out w1 hb) 1 _ rfl
    have z2':=Qa (CELLS.out w1 hb) 2 _ rfl
    have z11:=Qa (CELLS.out w1 hb) 11 _ rfl
    clear hb z2
    go_wp2_with fail
    refine (HIN.out _).mono ?_
    rintro e w2 ⟨rfl,rfl⟩
    go_wp2_with fail
    go_ret
    exact ⟨rfl,HF.out⟩
end Go.Proofs.YtcooobnaocbdjaaGreatDoor
