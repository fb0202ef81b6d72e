import Derived.Test.YtcooobnaocbdjaaGreatDoorJoin33
import Derived.Test.YtcooobnaocbdjaaGreatDoorJoin36
import Derived.Test.YtcooobnaocbdjaaGreatDoorJoin30
set_option maxRecDepth 100000
set_option maxHeartbeats 6400000
set_option linter.unusedSimpArgs false
set_option linter.unusedVariables false
namespace Go.Proofs.YtcooobnaocbdjaaGreatDoor
open Go.RowKit Go.Sort
theorem Qda (w:World) (es:List Value) (s:Qq) (h:Qd.reads (Qf w.heap.size) w es s) (hb:Qd.bulk s<=1048576) (hwd:Qkl (Zc s)) (m:Int) (h64:In64 m) (ax:Option Addr) (nx cx:Nat) (X:List Int) (hx:IntsIn w.heap.size w ax nx X) (hnx:nx<=1048576)
  (at':Option Addr) (nt ct:Nat) (Y:List Int) (ht:IntsIn w.heap.size w at' nt Y) (hnt:nt<=1048576) (hg:Z0 w) :
  Calls Tryz.prog 13 #[.agg es.toArray,.int .i64 m,.slice ax nx cx,.slice at' nt ct] w fun e w' => ∃ es',e = .returned (.agg (es':List Value).toArray)/\Qg.owns (Zb w.heap.size w'.heap.size) w' es' (fwdN s m X Y)/\Below w.heap.size w w':=by
 have hsm:=Z8 hb
 have hlt:=hg.lt
 have HGX:=Lib.hid fun (wx:World) (hx:Below w.heap.size w wx)=>(hg.below hlt hx:Z0 wx)
 have HTK:=Lib.hid fun (wx:World) (hr:Qd.reads (Qf wx.heap.size) wx es s) (hx':IntsIn wx.heap.size wx ax nx X) (ht':IntsIn wx.heap.size wx at' nt Y)=>Qkm wx es s hr hb hwd m h64 ax nx cx X hx' at' nt ct Y ht'
 obtain ⟨a1,n1,c1,a2,n2,c2,a5,n5,c5,a6,n6,c6,a7,n7,c7,a8,n8,c8,a9,n9,c9,a10,n10,c10,a11,n11,c11,rfl,⟨p1,q1,l1⟩,⟨p2,q2,l2⟩,⟨p5,q5,l5⟩,⟨p6,q6,l6⟩,⟨p7,q7,l7⟩,⟨p8,q8,l8⟩,⟨p9,q9,l9⟩,⟨p10,q10,l10⟩,⟨p11,q11,l11⟩⟩:=Qn.1 h
 obtain ⟨pc,plan,ops,last,redo,stash,full,xs,ys,gs,ds,rows,loss,sat⟩:=s
 replace l2:Qb shOp (Qf w.heap.size) w a2 n2 ops:=l2
 replace l5:Qb Qc (Qf w.heap.size) w a5 n5 stash:=l5
 have hb5:(Shape.list Qc).bulk stash<=1048576:=by rw [Q2] at hb;dsimp only at hb;omega
 have hb2:(Shape.list shOp).bulk ops<=1048576:=hsm.2.1
 have hlen:stash.length<=1048576:=by rw [Qh Qc l5] at hb5;have:=l5.1;omega
 have hbel:Below w.heap.size w ((w.alloc (.cells #[.int .i64 pc,.slice a1 n1 c1,.slice a2 n2 c2,.bool last,.bool redo,.slice a5 n5 c5,.slice a6 n6 c6,.slice a7 n7 c7,.slice a8 n8 c8,.slice a9 n9 c9,.slice a10 n10 c10,.slice a11 n11 c11,.int .i64 loss,.bool sat] 32 (0,0))).alloc (.cells Zj 32 (0,0))):=((Below.refl _ _).alloc (Nat.le_refl _) _).alloc (by simp) _
 have hk0:((w.alloc (.cells #[.int .i64 pc,.slice a1 n1 c1,.slice a2 n2 c2,.bool last,.bool redo,.slice a5 n5 c5,.slice a6 n6 c6,.slice a7 n7 c7,.slice a8 n8 c8,.slice a9 n9 c9,.slice a10 n10 c10,.slice a11 n11 c11,.int .i64 loss,.bool sat] 32 (0,0))).alloc (.cells Zj 32 (0,0))).heap[w.heap.size]? = some (.cells #[.int .i64 pc,.slice a1 n1 c1,.slice a2 n2 c2,.bool last,.bool redo,.slice a5 n5 c5,.slice a6 n6 c6,.slice a7 n7 c7,.slice a8 n8 c8,.slice a9 n9 c9,.slice a10 n10 c10,.slice a11 n11 c11,.int .i64 loss,.bool sat] 32 (0,0)):=by
  rw [Below.heap_alloc _ _ _ (by simp)]
  exact heap_alloc_new w _
 have hk1:((w.alloc (.cells #[.int .i64 pc,.slice a1 n1 c1,.slice a2 n2 c2,.bool last,.bool redo,.slice a5 n5 c5,.slice a6 n6 c6,.slice a7 n7 c7,.slice a8 n8 c8,.slice a9 n9 c9,.slice a10 n10 c10,.slice a11 n11 c11,.int .i64 loss,.bool sat] 32 (0,0))).alloc (.cells Zj 32 (0,0))).heap[w.heap.size+1]? = some (.cells Zj 32 (0,0)):=by
  have:=heap_alloc_new (w.alloc (.cells #[.int .i64 pc,.slice a1 n1 c1,.slice a2 n2 c2,.bool last,.bool redo,.slice a5 n5 c5,.slice a6 n6 c6,.slice a7 n7 c7,.slice a8 n8 c8,.slice a9 n9 c9,.slice a10 n10 c10,.slice a11 n11 c11,.int .i64 loss,.bool sat] 32 (0,0))) (.cells Zj 32 (0,0))
  simpa using this
 have hs0:((w.alloc (.cells #[.int .i64 pc,.slice a1 n1 c1,.slice a2 n2 c2,.bool last,.bool redo,.slice a5 n5 c5,.slice a6 n6 c6,.slice a7 n7 c7,.slice a8 n8 c8,.slice a9 n9 c9,.slice a10 n10 c10,.slice a11 n11 c11,.int .i64 loss,.bool sat] 32 (0,0))).alloc (.cells Zj 32 (0,0))).heap.size=w.heap.size+2:=by simp
 have HRD:=Lib.hid fun (wx:World) (hx:Below w.heap.size w wx)=>Shape.le _ (Shape.below _ h hx (Nat.le_refl _)) hx.size
 have L2:=Lib.hid l2
 have PQ2:=Lib.hid (And.intro p2 q2)
 have HX:=Lib.hid hx
 have HT:=Lib.hid ht
 have B2:=Lib.hid hb2
 have HSM:=Lib.hid hsm
 have K0:=Lib.hid hk0
 have K1:=Lib.hid hk1
 have HA:=Lib.hid hbel
 have HS:=Lib.hid hs0
 have HLEN:=Lib.hid hlen
 have N2:=Lib.hid l2.1
 clear h hx ht hb5 hb2 hb hsm hk0 hk1 hbel hs0 l1 l2 l5 l6 l7 l8 l9 l10 l11 hwd h64 hg hlt hlen p1 q1 p2 q2 p5 q5 p6 q6 p7 q7 p8 q8 p9 q9 p10 q10 p11 q11
 go_enter Tryz.func13,Tryz.ntmps13
 go_upto_region 1 with fail
 generalize ((w.alloc (.cells #[.int .i64 pc,.slice a1 n1 c1,.slice a2 n2 c2,.bool last,.bool redo,.slice a5 n5 c5,.slice a6 n6 c6,.slice a7 n7 c7,.slice a8 n8 c8,.slice a9 n9 c9,.slice a10 n10 c10,.slice a11 n11 c11,.int .i64 loss,.bool sat] 32 (0,0))).alloc (.cells Zj 32 (0,0)))=W0 at K0 K1 HA HS |-
 have z0:=Qa (K0.out) 0 _ rfl
 have z1:=Qa (K0.out) 1 _ rfl
 have z2:=Qa (K0.out) 2 _ rfl
 have z3:=Qa (K0.out) 3 _ rfl
 have z4:=Qa (K0.out) 4 _ rfl
 have z5:=Qa (K0.out) 5 _ rfl
 have z6:=Qa (K0.out) 6 _ rfl
 have z7:=Qa (K0.out) 7 _ rfl
 have z8:=Qa (K0.out) 8 _ rfl
 have z9:=Qa (K0.out) 9 _ rfl
 have z10:=Qa (K0.out) 10 _ rfl
 have z11:=Qa (K0.out) 11 _ rfl
 have z12:=Qa (K0.out) 12 _ rfl
 have z13:=Qa (K0.out) 13 _ rfl
 have HC:=Lib.hid (Qmw W0 _ (pc,plan,ops,last,redo,stash,full,xs,ys,gs,ds,rows,loss,sat) (HRD.out W0 HA.out) HSM.out HLEN.out)
 go_wp2_with fail
 refine HC.out.mono ?_
 rintro e w1 ⟨v1,v2,v5,v6,v7,v8,v9,v10,v11,c,rfl,hb1,hc0,hc9,hnine⟩
 have hno:=hnine.toO
 obtain ⟨ua1,k1,d1,rfl⟩:=hnine.o1.form
 obtain ⟨ua2,k2,d2,rfl⟩:=hnine.o2.form
 obtain ⟨ua5,d5,e5,-,-⟩:=hnine.o5.form
 replace e5:v5 = .slice ua5 stash.length d5:=e5
 subst e5
 obtain ⟨ua6,k6,d6,rfl⟩:=hnine.o6.form
 obtain ⟨ua7,k7,d7,rfl⟩:=hnine.o7.form
 obtain ⟨ua8,k8,d8,rfl⟩:=hnine.o8.form
 obtain ⟨ua9,k9,d9,rfl⟩:=hnine.o9.form
 obtain ⟨ua10,k10,d10,rfl⟩:=hnine.o10.form
 obtain ⟨ua11,k11,d11,rfl⟩:=hnine.o11.form
 have hs:=HS.out
 have ha:=(Below.refl w1.heap.size w1).alloc (Nat.le_refl _) (.cells #[.int .i64 pc,.slice ua1 k1 d1,.slice ua2 k2 d2,.bool last,.bool redo,.slice ua5 stash.length d5,.slice ua6 k6 d6,.slice ua7 k7 d7,.slice ua8 k8 d8,.slice ua9 k9 d9,.slice ua10 k10 d10,.slice ua11 k11 d11,.int .i64 loss,.bool sat] 32 (0,0))
 have hs1:=hb1.size
 have hq0:=(hb1.block w.heap.size (by omega)).trans K0.out
 have hq1:=(hb1.block (w.heap.size+1) (by omega)).trans K1.out
 have KY:=Lib.hid (heap_alloc_new w1 (.cells #[.int .i64 pc,.slice ua1 k1 d1,.slice ua2 k2 d2,.bool last,.bool redo,.slice ua5 stash.length d5,.slice ua6 k6 d6,.slice ua7 k7 d7,.slice ua8 k8 d8,.slice ua9 k9 d9,.slice ua10 k10 d10,.slice ua11 k11 d11,.int .i64 loss,.bool sat] 32 (0,0)))
 have Q0:=Lib.hid ((ha.block w.heap.size (by omega)).trans hq0)
 have Q1:=Lib.hid ((ha.block (w.heap.size+1) (by omega)).trans hq1)
 have B2':=Lib.hid (HA.out.trans ((hb1.trans (ha.mono hs1)).mono HA.out.size))
 have SZ:=Lib.hid (show (w1.alloc (.cells #[.int .i64 pc,.slice ua1 k1 d1,.slice ua2 k2 d2,.bool last,.bool redo,.slice ua5 stash.length d5,.slice ua6 k6 d6,.slice ua7 k7 d7,.slice ua8 k8 d8,.slice ua9 k9 d9,.slice ua10 k10 d10,.slice ua11 k11 d11,.int .i64 loss,.bool sat] 32 (0,0))).heap.size=w1.heap.size+1 by simp)
 have AL:=Lib.hid ha
 have O1:=Lib.hid hno.o1
 have O2:=Lib.hid hno.o2
 have O5:=Lib.hid hnine.o5.toB
 have O5':=Lib.hid hno.o5
 have O6:=Lib.hid hno.o6
 have O7:=Lib.hid hno.o7
 have O8:=Lib.hid hno.o8
 have O9:=Lib.hid hno.o9
 have O10:=Lib.hid hno.o10
 have O11:=Lib.hid hno.o11
 have hm:=hnine.mono
 have HM:=Lib.hid (show (W0.heap.size<=c 0/\c 9<=w1.heap.size)/\c 0<=c 1/\c 1<=c 2/\c 2<=c 3/\c 3<=c 4/\c 4<=c 5/\c 5<=c 6/\c 6<=c 7/\c 7<=c 8/\c 8<=c 9 from ⟨⟨hc0,hc9⟩,hm 0 (by omega),hm 1 (by omega),hm 2 (by omega),hm 3 (by omega),hm 4 (by omega),hm 5 (by omega),hm 6 (by omega),hm 7 (by omega),hm 8 (by omega)⟩)
 clear ha hq0 hq1 hno hnine HC hb1 hs1 hm hc0 hc9 z0 z1 z2 z3 z4 z5 z6 z7 z8 z9 z10 z11 z12 z13
 go_upto_region 2 with fail
 generalize w1.alloc (.cells #[.int .i64 pc,.slice ua1 k1 d1,.slice ua2 k2 d2,.bool last,.bool redo,.slice ua5 stash.length d5,.slice ua6 k6 d6,.slice ua7 k7 d7,.slice ua8 k8 d8,.slice ua9 k9 d9,.slice ua10 k10 d10,.slice ua11 k11 d11,.int .i64 loss,.bool sat] 32 (0,0))=W2 at KY Q0 Q1 B2' SZ AL |-
 obtain ⟨p,hp⟩ : ∃ p,Za (pc,plan,ops,last,redo,stash,full,xs,ys,gs,ds,rows,loss,sat) m X Y=p:=⟨_,rfl⟩
 have HTK2:=Lib.hid (HTK.out W2 (HRD.out W2 B2'.out) ((HX.out.below B2'.out (Nat.le_refl _)).le B2'.out.size) ((HT.out.below B2'.out (Nat.le_refl _)).le B2'.out.size))
 rw [<- Qjf,hp] at HTK2
 have HP:=Lib.hid hp
 clear hp hs
 have z0:=Qa (Q0.out) 0 _ rfl
 have z1:=Qa (Q0.out) 1 _ rfl
 have z2:=Qa (Q0.out) 2 _ rfl
 have z3:=Qa (Q0.out) 3 _ rfl
 have z4:=Qa (Q0.out) 4 _ rfl
 have z5:=Qa (Q0.out) 5 _ rfl
 have z6:=Qa (Q0.out) 6 _ rfl
 have z7:=Qa (Q0.out) 7 _ rfl
 have z8:=Qa (Q0.out) 8 _ rfl
 have z9:=Qa (Q0.out) 9 _ rfl
 have z10:=Qa (Q0.out) 10 _ rfl
 have z11:=Qa (Q0.out) 11 _ rfl
 have z12:=Qa (Q0.out) 12 _ rfl
 have z13:=Qa (Q0.out) 13 _ rfl
 go_wp2_with fail
 refine HTK2.out.mono ?_
 rintro e wq ⟨rfl,hbq⟩
 have HQ:=Lib.hid hbq
 have hs1:=SZ.out
 have hs2:=hbq.size
 have hs:=HS.out
 obtain ⟨⟨hm0,hm9⟩,hm1,hm2,hm3,hm4,hm5,hm6,hm7,hm8,hm8'⟩:=HM.out
 have hw2:w.heap.size+2<=w1.heap.size:=by omega
 have KYq:=Lib.hid ((hbq.block w1.heap.size (by omega)).trans KY.out)
 have Q0q:=Lib.hid ((hbq.block w.heap.size (by omega)).trans Q0.out)
 have Q1q:=Lib.hid ((hbq.block (w.heap.size+1) (by omega)).trans Q1.out)
 have BQ:=Lib.hid (B2'.out.trans (hbq.mono B2'.out.size))
 have HW:=Lib.hid hw2
 have T1q:=Lib.hid (show ButX (fun b=>b=w1.heap.size) w1 wq from (ButX.called AL.out).trans (ButX.called HQ.out))
 clear hbq hs1 hs2 hw2 HTK2 hs HTK hm0 hm9 hm1 hm2 hm3 hm4 hm5 hm6 hm7 hm8 hm8' z0 z1 z2 z3 z4 z5 z6 z7 z8 z9 z10 z11 z12 z13 KY Q0 Q1
 cases p
 ·skip
  have FINAL:Hid (∀ wf,ButX (fun b=>b=w.heap.size+1) wq wf->Below w.heap.size w wf -> ∃ es',Ending.returned (.agg #[.int .i64 pc,.slice ua1 k1 d1,.slice ua2 k2 d2,.bool last,.bool redo,.slice ua5 stash.length d5,.slice ua6 k6 d6,.slice ua7 k7 d7,.slice ua8 k8 d8,.slice ua9 k9 d9,.slice ua10 k10 d10,.slice ua11 k11 d11,.int .i64 loss,.bool sat]) = .returned (.agg (es':List Value).toArray)/\Qg.owns (Zb w.heap.size wf.heap.size) wf es' (fwdN (pc,plan,ops,last,redo,stash,full,xs,ys,gs,ds,rows,loss,sat) m X Y)/\Below w.heap.size w wf):=Lib.hid fun wf he hbw=>by
   have hs1:=SZ.out
   have hs2:=HQ.out.size
   have hsW:=HW.out
   have hsH:=HS.out
   obtain ⟨⟨hm0,hm9⟩,hm1,hm2,hm3,hm4,hm5,hm6,hm7,hm8,hm8'⟩:=HM.out
   have h1e:=T1q.out
   have hz2:=h1e.1
   have hz3:=he.1
   let J:Nat->Nat->Prop:=fun i b=>match i with | 0=>c 0<=b/\b<c 1 | 1=>c 1<=b/\b<c 2 | 2=>c 2<=b/\b<c 3 | 3=>c 3<=b/\b<c 4 | 4=>c 4<=b/\b<c 5 | 5=>c 5<=b/\b<c 6 | 6=>c 6<=b/\b<c 7 | 7=>c 7<=b/\b<c 8 | _=>c 8<=b/\b<c 9
   refine ⟨[.int .i64 pc,.slice ua1 k1 d1,.slice ua2 k2 d2,.bool last,.bool redo,.slice ua5 stash.length d5,.slice ua6 k6 d6,.slice ua7 k7 d7,.slice ua8 k8 d8,.slice ua9 k9 d9,.slice ua10 k10 d10,.slice ua11 k11 d11,.int .i64 loss,.bool sat],rfl,?_,hbw⟩
   rw [Qn8 HP.out]
   refine NineO.own (J:=J) (s:=(pc,plan,ops,last,redo,stash,full,xs,ys,gs,ds,rows,loss,sat)) ⟨?_,?_,?_,?_,?_,?_,?_,?_,?_,?_⟩ ?_
   ·exact Owned.ownsBut _ (Owned.ownsBut _ O1.out h1e (fun b o f=>⟨by show ¬ b=w1.heap.size;have h1:=f.1;have h2:=f.2;omega,by have h1:=f.1;have h2:=f.2;omega⟩)) he (fun b o f=>⟨fun h=>by have h1:=f.1;have h2:=f.2;omega,by have h1:=f.1;have h2:=f.2;omega⟩)
   ·exact Owned.ownsBut _ (Owned.ownsBut _ O2.out h1e (fun b o f=>⟨by show ¬ b=w1.heap.size;have h1:=f.1;have h2:=f.2;omega,by have h1:=f.1;have h2:=f.2;omega⟩)) he (fun b o f=>⟨fun h=>by have h1:=f.1;have h2:=f.2;omega,by have h1:=f.1;have h2:=f.2;omega⟩)
   ·exact Owned.ownsBut _ (Owned.ownsBut _ O5'.out h1e (fun b o f=>⟨by show ¬ b=w1.heap.size;have h1:=f.1;have h2:=f.2;omega,by have h1:=f.1;have h2:=f.2;omega⟩)) he (fun b o f=>⟨fun h=>by have h1:=f.1;have h2:=f.2;omega,by have h1:=f.1;have h2:=f.2;omega⟩)
   ·exact Owned.ownsBut _ (Owned.ownsBut _ O6.out h1e (fun b o f=>⟨by show ¬ b=w1.heap.size;have h1:=f.1;have h2:=f.2;omega,by have h1:=f.1;have h2:=f.2;omega⟩)) he (fun b o f=>⟨fun h=>by have h1:=f.1;have h2:=f.2;omega,by have h1:=f.1;have h2:=f.2;omega⟩)
   ·exact Owned.ownsBut _ (Owned.ownsBut _ O7.out h1e (fun b o f=>⟨by show ¬ b=w1.heap.size;have h1:=f.1;have h2:=f.2;omega,by have h1:=f.1;have h2:=f.2;omega⟩)) he (fun b o f=>⟨fun h=>by have h1:=f.1;have h2:=f.2;omega,by have h1:=f.1;have h2:=f.2;omega⟩)
   ·exact Owned.ownsBut _ (Owned.ownsBut _ O8.out h1e (fun b o f=>⟨by show ¬ b=w1.heap.size;have h1:=f.1;have h2:=f.2;omega,by have h1:=f.1;have h2:=f.2;omega⟩)) he (fun b o f=>⟨fun h=>by have h1:=f.1;have h2:=f.2;omega,by have h1:=f.1;have h2:=f.2;omega⟩)
   ·exact Owned.ownsBut _ (Owned.ownsBut _ O9.out h1e (fun b o f=>⟨by show ¬ b=w1.heap.size;have h1:=f.1;have h2:=f.2;omega,by have h1:=f.1;have h2:=f.2;omega⟩)) he (fun b o f=>⟨fun h=>by have h1:=f.1;have h2:=f.2;omega,by have h1:=f.1;have h2:=f.2;omega⟩)
   ·exact Owned.ownsBut _ (Owned.ownsBut _ O10.out h1e (fun b o f=>⟨by show ¬ b=w1.heap.size;have h1:=f.1;have h2:=f.2;omega,by have h1:=f.1;have h2:=f.2;omega⟩)) he (fun b o f=>⟨fun h=>by have h1:=f.1;have h2:=f.2;omega,by have h1:=f.1;have h2:=f.2;omega⟩)
   ·exact Owned.ownsBut _ (Owned.ownsBut _ O11.out h1e (fun b o f=>⟨by show ¬ b=w1.heap.size;have h1:=f.1;have h2:=f.2;omega,by have h1:=f.1;have h2:=f.2;omega⟩)) he (fun b o f=>⟨fun h=>by have h1:=f.1;have h2:=f.2;omega,by have h1:=f.1;have h2:=f.2;omega⟩)
   ·intro i j b hi hj f g
    have hJ:(J 0 b ↔ (c 0<=b/\b<c 1))/\(J 1 b ↔ (c 1<=b/\b<c 2))/\(J 2 b ↔ (c 2<=b/\b<c 3))/\(J 3 b ↔ (c 3<=b/\b<c 4))/\(J 4 b ↔ (c 4<=b/\b<c 5))/\(J 5 b ↔ (c 5<=b/\b<c 6))/\(J 6 b ↔ (c 6<=b/\b<c 7))/\(J 7 b ↔ (c 7<=b/\b<c 8))/\(J 8 b ↔ (c 8<=b/\b<c 9)):=⟨Iff.rfl,Iff.rfl,Iff.rfl,Iff.rfl,Iff.rfl,Iff.rfl,Iff.rfl,Iff.rfl,Iff.rfl⟩
    obtain ⟨r0,r1,r2,r3,r4,r5,r6,r7,r8⟩:=hJ
    rcases (show i=0\/i=1\/i=2\/i=3\/i=4\/i=5\/i=6\/i=7\/i=8 from by omega) with rfl | rfl | rfl | rfl | rfl | rfl | rfl | rfl | rfl <;> rcases (show j=0\/j=1\/j=2\/j=3\/j=4\/j=5\/j=6\/j=7\/j=8 from by omega) with rfl | rfl | rfl | rfl | rfl | rfl | rfl | rfl | rfl <;> first
     | exact absurd hi (by decide)
     | (simp only [r0,r1,r2,r3,r4,r5,r6,r7,r8] at f g <;> omega)
   ·intro i b hi f
    have hJ:(J 0 b ↔ (c 0<=b/\b<c 1))/\(J 1 b ↔ (c 1<=b/\b<c 2))/\(J 2 b ↔ (c 2<=b/\b<c 3))/\(J 3 b ↔ (c 3<=b/\b<c 4))/\(J 4 b ↔ (c 4<=b/\b<c 5))/\(J 5 b ↔ (c 5<=b/\b<c 6))/\(J 6 b ↔ (c 6<=b/\b<c 7))/\(J 7 b ↔ (c 7<=b/\b<c 8))/\(J 8 b ↔ (c 8<=b/\b<c 9)):=⟨Iff.rfl,Iff.rfl,Iff.rfl,Iff.rfl,Iff.rfl,Iff.rfl,Iff.rfl,Iff.rfl,Iff.rfl⟩
    obtain ⟨r0,r1,r2,r3,r4,r5,r6,r7,r8⟩:=hJ
    rcases (show i=0\/i=1\/i=2\/i=3\/i=4\/i=5\/i=6\/i=7\/i=8 from by omega) with rfl | rfl | rfl | rfl | rfl | rfl | rfl | rfl | rfl <;> (simp only [r0,r1,r2,r3,r4,r5,r6,r7,r8] at f <;> omega)
  have hsW:=HW.out
  have y0:=Qa (KYq.out) 0 _ rfl
  have y1:=Qa (KYq.out) 1 _ rfl
  have y2:=Qa (KYq.out) 2 _ rfl
  have y3:=Qa (KYq.out) 3 _ rfl
  have y4:=Qa (KYq.out) 4 _ rfl
  have y5:=Qa (KYq.out) 5 _ rfl
  have y6:=Qa (KYq.out) 6 _ rfl
  have y7:=Qa (KYq.out) 7 _ rfl
  have y8:=Qa (KYq.out) 8 _ rfl
  have y9:=Qa (KYq.out) 9 _ rfl
  have y10:=Qa (KYq.out) 10 _ rfl
  have y11:=Qa (KYq.out) 11 _ rfl
  have y12:=Qa (KYq.out) 12 _ rfl
  have y13:=Qa (KYq.out) 13 _ rfl
  have hzz:=Q1q.out
  have cz0:=Qa hzz 0 _ rfl
  have f0:wq.frozen? ⟨w.heap.size+1,0,none⟩=false:=frozen_of_row _ _ _ _ _ hzz
  have cz1:=Qa hzz 1 _ rfl
  have f1:wq.frozen? ⟨w.heap.size+1,1,none⟩=false:=frozen_of_row _ _ _ _ _ hzz
  have cz2:=Qa hzz 2 _ rfl
  have f2:wq.frozen? ⟨w.heap.size+1,2,none⟩=false:=frozen_of_row _ _ _ _ _ hzz
  have cz3:=Qa hzz 3 _ rfl
  have f3:wq.frozen? ⟨w.heap.size+1,3,none⟩=false:=frozen_of_row _ _ _ _ _ hzz
  have cz4:=Qa hzz 4 _ rfl
  have f4:wq.frozen? ⟨w.heap.size+1,4,none⟩=false:=frozen_of_row _ _ _ _ _ hzz
  have cz5:=Qa hzz 5 _ rfl
  have f5:wq.frozen? ⟨w.heap.size+1,5,none⟩=false:=frozen_of_row _ _ _ _ _ hzz
  have cz6:=Qa hzz 6 _ rfl
  have f6:wq.frozen? ⟨w.heap.size+1,6,none⟩=false:=frozen_of_row _ _ _ _ _ hzz
  have cz7:=Qa hzz 7 _ rfl
  have f7:wq.frozen? ⟨w.heap.size+1,7,none⟩=false:=frozen_of_row _ _ _ _ _ hzz
  have cz8:=Qa hzz 8 _ rfl
  have f8:wq.frozen? ⟨w.heap.size+1,8,none⟩=false:=frozen_of_row _ _ _ _ _ hzz
  have cz9:=Qa hzz 9 _ rfl
  have f9:wq.frozen? ⟨w.heap.size+1,9,none⟩=false:=frozen_of_row _ _ _ _ _ hzz
  have cz10:=Qa hzz 10 _ rfl
  have f10:wq.frozen? ⟨w.heap.size+1,10,none⟩=false:=frozen_of_row _ _ _ _ _ hzz
  have cz11:=Qa hzz 11 _ rfl
  have f11:wq.frozen? ⟨w.heap.size+1,11,none⟩=false:=frozen_of_row _ _ _ _ _ hzz
  have cz12:=Qa hzz 12 _ rfl
  have f12:wq.frozen? ⟨w.heap.size+1,12,none⟩=false:=frozen_of_row _ _ _ _ _ hzz
  have cz13:=Qa hzz 13 _ rfl
  have f13:wq.frozen? ⟨w.heap.size+1,13,none⟩=false:=frozen_of_row _ _ _ _ _ hzz
  obtain ⟨e1,e2,e3,e4⟩:=Zn hzz (.int .i64 pc) (.slice ua1 k1 d1) (.slice ua2 k2 d2) (.bool last) (.bool redo) (.slice ua5 stash.length d5) (.slice ua6 k6 d6) (.slice ua7 k7 d7) (.slice ua8 k8 d8) (.slice ua9 k9 d9) (.slice ua10 k10 d10) (.slice ua11 k11 d11) (.int .i64 loss) (.bool sat)
  have hE:=ButX.ended (X:=fun b=>b=w.heap.size+1) e2 e3 rfl
  have E1:=Lib.hid e1
  have E4:=Lib.hid (e4 w.heap.size w (by omega) BQ.out)
  have HE:=Lib.hid hE
  clear e1 e2 e3 e4 hE hzz hsW
  go_wp2_with fail
  refine bodyPost_ret (results_cell_row rfl _ _ (w.heap.size+1) 32 #[.int .i64 pc,.slice ua1 k1 d1,.slice ua2 k2 d2,.bool last,.bool redo,.slice ua5 stash.length d5,.slice ua6 k6 d6,.slice ua7 k7 d7,.slice ua8 k8 d8,.slice ua9 k9 d9,.slice ua10 k10 d10,.slice ua11 k11 d11,.int .i64 loss,.bool sat] (0,0) _ rfl E1.out Tryz.underlying32 rfl (by kernel_rfl)) rfl ?_
  exact FINAL.out _ HE.out E4.out
 ·skip
  obtain ⟨hmo,hvx,hxi⟩:=Qoo HP.out
  obtain ⟨-,hlo,hhi⟩:=Z4 hmo
  replace hlo:1<=ops.length:=hlo
  replace hhi:ops.length<=8:=hhi
  rw [L2.out.1] at hlo hhi
  have HVX:=Lib.hid hvx
  have hxi':(nx:Int)=Qca ops:=by rw [<- HX.out.len];exact hxi
  have HXI:=Lib.hid hxi'
  clear hmo hvx hxi hxi' hlo
  have z0:=Qa (Q0q.out) 0 _ rfl
  have z1:=Qa (Q0q.out) 1 _ rfl
  have z2:=Qa (Q0q.out) 2 _ rfl
  have z3:=Qa (Q0q.out) 3 _ rfl
  have z4:=Qa (Q0q.out) 4 _ rfl
  have z5:=Qa (Q0q.out) 5 _ rfl
  have z6:=Qa (Q0q.out) 6 _ rfl
  have z7:=Qa (Q0q.out) 7 _ rfl
  have z8:=Qa (Q0q.out) 8 _ rfl
  have z9:=Qa (Q0q.out) 9 _ rfl
  have z10:=Qa (Q0q.out) 10 _ rfl
  have z11:=Qa (Q0q.out) 11 _ rfl
  have z12:=Qa (Q0q.out) 12 _ rfl
  have z13:=Qa (Q0q.out) 13 _ rfl
  go_wp2_with fail
  refine (Qbl wq pc a1 n1 c1 a2 n2 c2 last redo a5 n5 c5 a6 n6 c6 a7 n7 c7 a8 n8 c8 a9 n9 c9 a10 n10 c10 a11 n11 c11 loss sat).mono ?_
  rintro e wm ⟨rfl,hbm⟩
  have BM:=Lib.hid (BQ.out.trans (hbm.mono BQ.out.size))
  have HBM:=Lib.hid hbm
  clear hbm z0 z1 z2 z3 z4 z5 z6 z7 z8 z9 z10 z11 z12 z13
  have HIN:=Lib.hid (Qgg wm a2 n2 c2 ops ((L2.out.below BM.out (Nat.le_refl _)).le BM.out.size) PQ2.out.1 PQ2.out.2 B2.out ax nx cx X ((HX.out.below BM.out (Nat.le_refl _)).le BM.out.size) (HGX.out wm BM.out) HVX.out HXI.out)
  obtain ⟨SB,hSB⟩ : ∃ q,inKB ops X n2=q:=⟨_,rfl⟩
  rw [hSB] at HIN
  have HSB:=Lib.hid hSB
  clear hSB
  go_wp2_with fail
  refine HIN.out.mono ?_
  rintro e w3 ⟨v,rfl,hli,hb3⟩
  have hs3:=hb3.size
  obtain ⟨ar,cr,er,hcr,hcrb,hor⟩:=hli.list (by decide)
  have hll:(Qai (inK ops X) (n2+1)).length=n2+1:=Zy _ _
  rw [hll] at er hor hcr
  subst er
  have hla:Qb Qi (From wm.heap.size w3.heap.size) w3 ar (n2+1) (Qai (inK ops X) (n2+1)):=hor.listAt (fun b o f=>f) (by decide)
  obtain ⟨br,orr,xo,ao,no,co,hxo,rfl,hbr,hro,hno1,hno2,hlo⟩:=Qch hla n2 (by omega)
  obtain ⟨br',orr',x0,a0,n0,c0,hx0,e0,-,hr0,-,-,-⟩:=Qch hla 0 (by omega)
  cases e0
  have hxe:inK ops X n2=xo:=by rw [Qan _ _ n2 (by omega)] at hxo;exact Option.some.inj hxo
  have hx6:no<=6:=by rw [<- hlo.1,<- hxe];exact Qlk (Q8 HVX.out).2.1 n2
  obtain ⟨N1,hN1⟩ : ∃ N,n2+1=N:=⟨_,rfl⟩
  rw [hN1] at hor hcr |-
  have hNl:n2<N1:=by omega
  have hsq:=HQ.out.size
  have hsz:=SZ.out
  have hsm:=HBM.out.size
  have hw2:=HW.out
  have hq0:=(hb3.block w.heap.size (by omega)).trans ((HBM.out.block w.heap.size (by omega)).trans Q0q.out)
  have hin:=((hlo.sub (J:=Qf w3.heap.size) fun b hb=>hb.2).ints (by omega))
  have HCL:=Lib.hid (Jd w3 ao no co xo hin)
  have HOR:=Lib.hid hor
  have HXE:=Lib.hid hxe
  have HX6:=Lib.hid hx6
  have HB3:=Lib.hid hb3
  have HR0:=Lib.hid hr0
  have HQ3:=Lib.hid hq0
  have HCR:=Lib.hid (And.intro hcr hcrb)
  have HN1:=Lib.hid hN1
  have HBR:=Lib.hid hbr
  have HLO:=Lib.hid hlo.1
  have z2:=Qa hq0 2 _ rfl
  clear hli hla hxo hx0 hor hlo hxe hx6 hbr hll hb3 hcr hcrb hN1 hq0 hin hr0 hs3 hsq hsz hsm hw2 hno1 hno2
  go_wp2_with fail
  refine HCL.out.mono ?_
  rintro e w4 ⟨ak,ck,rfl,hrk,hb4⟩
  have hs3:=HB3.out.size
  have hsq:=HQ.out.size
  have hsz:=SZ.out
  have hsm:=HBM.out.size
  have hw2:=HW.out
  have HQ4:=Lib.hid ((hb4.block w.heap.size (by omega)).trans HQ3.out)
  have HRK:=Lib.hid hrk
  have HB4:=Lib.hid hb4
  have r0:=(hb4.cell (p:=⟨br,orr+0,none⟩) (World.block_lt_of_cell? _ _ HR0.out)).trans HR0.out
  rw [Nat.add_zero] at r0
  have z4:=Qa HQ4.out 4 _ rfl
  have hn0:0<N1:=by have:=HN1.out;omega
  clear hrk hb4 z2 hro hNl hs3 hsq hsz hsm hw2 HCL HIN
  go_upto_if 38 with fail
  obtain ⟨RW,hRW⟩ : ∃ r,(Zt (pc,plan,ops,last,redo,stash,full,xs,ys,gs,ds,rows,loss,sat) m X).2=r:=⟨_,rfl⟩
  have HRW:=Lib.hid hRW
  clear hRW
  go_cut [10] (fun t wx => ∃ b o n cp,t = .slice (some ⟨b,o,none⟩) n cp/\n<=cp/\cp<=9223372036854775807/\Qk ownRow (fun b' _=>(wm.heap.size<=b'/\b'<w3.heap.size)\/(w4.heap.size<=b'/\b'<wx.heap.size)) wx (some ⟨b,o,none⟩) n RW/\Below w4.heap.size w4 wx)
  case first =>
   have hor4:=HOR.out.but (X:=fun _=>False) (ButX.called HB4.out) (fun b o f=>⟨fun h=>h,f.2⟩)
   have hs4:=HB4.out.size
   have HOR4:=Lib.hid hor4
   have HS4:=Lib.hid hs4
   clear hor4 hs4
   cases redo
   ·go_wp2_with fail
    go_meet
    case rel =>
     have e:RW=Qai (inK ops X) N1:=by rw [<- HRW.out];show insN ops X=_;unfold insN;rw [N2.out,HN1.out]
     rw [e]
     exact ⟨br,orr,N1,cr,rfl,by have:=HCR.out.1;have:=HN1.out;omega,HCR.out.2,HOR4.out.sub (fun b o f => .inl f),Below.refl _ _⟩
   ·go_wp2_with fail
    go_meet
    case rel =>
     have hl:=HOR4.out.oneRow (by omega) r0 (fun b o f=>Nat.lt_of_lt_of_le f.2 HS4.out)
     have e:RW=(Qai (inK ops X) N1).take 1:=by
      rw [<- HRW.out]
      show [X]=_
      rw [<- Qd9 ops X]
      unfold insN
      rw [N2.out,HN1.out]
     rw [e]
     exact ⟨w4.heap.size,0,1,1,rfl,Nat.le_refl _,by omega,hl.sub (fun b o f=>f.elim .inl fun h => .inr ⟨Nat.le_of_eq h.symm,by rw [h];simp⟩),(Below.refl w4.heap.size w4).alloc (Nat.le_refl _) _⟩
  case rest =>
   obtain ⟨bs,os,ns,cs,rfl,hns,hcs,hos,hbx⟩:=hcut
   obtain ⟨wx,rfl⟩ : ∃ y,y=wc:=⟨_,rfl⟩
   clear r0 z4 hn0
   have hs3:=HB3.out.size
   have hs4:=HB4.out.size
   have hs5:=hbx.size
   have hsm:=HBM.out.size
   have hs1:=SZ.out
   have hs2:=HQ.out.size
   have hsW:=HW.out
   have hsH:=HS.out
   obtain ⟨⟨hm0,hm9⟩,hm1,hm2,hm3,hm4,hm5,hm6,hm7,hm8,hm8'⟩:=HM.out
   have hqx:=(hbx.block w.heap.size (by omega)).trans HQ4.out
   have hbig:ButX (fun b=>b=w1.heap.size) wq wx:=(ButX.called HBM.out).trans ((ButX.called HB3.out).trans ((ButX.called HB4.out).trans (ButX.called hbx)))
   have hk:=(hbx.block w1.heap.size (by omega)).trans ((HB4.out.block w1.heap.size (by omega)).trans ((HB3.out.block w1.heap.size (by omega)).trans ((HBM.out.block w1.heap.size (by omega)).trans KYq.out)))
   have hz:=(hbx.block (w.heap.size+1) (by omega)).trans ((HB4.out.block (w.heap.size+1) (by omega)).trans ((HB3.out.block (w.heap.size+1) (by omega)).trans ((HBM.out.block (w.heap.size+1) (by omega)).trans Q1q.out)))
   have hbw:=BM.out.trans ((HB3.out.trans ((HB4.out.trans (hbx.mono HB4.out.size)).mono HB3.out.size)).mono BM.out.size)
   have hrk:=(HRK.out.below hbx)
   have hl5:=(O5.out.but T1q.out (fun b hj=>⟨by show ¬ b=w1.heap.size;have:=hj.1;have:=hj.2;omega,by have:=hj.2;omega⟩)).but hbig (fun b hj=>⟨by show ¬ b=w1.heap.size;have:=hj.2;omega,by have:=hj.2;omega⟩)
   obtain ⟨us5,G5,-,g52,-⟩:=O5.out
   have HOB:=Lib.hid (show ∀ k,(Value.slice ua5 stash.length d5).ownBlock=some k->c 2<=k/\k<c 3 from fun k hk=>g52 k hk)
   have how:Qe.owns (fun b _=>(wm.heap.size<=b/\b<w3.heap.size)\/(w4.heap.size<=b/\b<wx.heap.size)) wx [.int .i64 m,.slice (some ⟨bs,os,none⟩) ns cs] (m,RW):=Zx.2 ⟨_,_,_,rfl,hns,hcs,hos⟩
   have HQX:=Lib.hid hqx
   have BG:=Lib.hid hbig
   have KZ:=Lib.hid hz
   have HRK5:=Lib.hid hrk
   have HL5:=Lib.hid hl5
   have HOW:=Lib.hid how
   have y5:=Qa hk 5 _ rfl
   have KY:=Lib.hid hk
   have BW:=Lib.hid hbw
   have S5:=Lib.hid hs5
   have HBX:=Lib.hid hbx
   obtain ⟨j0,hj,hy0,hy1,hy2⟩:=info_parts Jk
   clear hqx hbig hz hrk hl5 how hk hbw hos hbx hns hcs g52
   go_upto_region 9 with (at_builtin;refine Qw (by rfl) fun K hK => ?_;refine Ju rfl (Qh9 (ops:=#[]) wx (S:=Qe) (T:=46) (Ts:=26) (by rfl) _ _ (by rfl) j0 (.agg #[.int .i64 0,.slice none 0 0]) 32 Tryz.underlying26 hj hy0 hy1 hy2 rfl (by decide) (by decide) (From (c 2) (c 3)) (fun b=>(wm.heap.size<=b/\b<w3.heap.size)\/(w4.heap.size<=b/\b<wx.heap.size)) (fun b hj=>by have:=hj.1;have:=hj.2;omega) _ stash (m,RW) [.int .i64 m,.slice (some ⟨bs,os,none⟩) ns cs] _ (by rfl) HL5.out HOW.out (fun b o f=>f) (fun b f=>⟨by omega,fun g=>by have:=g.1;have:=g.2;omega⟩) Qdz (by rfl) HLEN.out ?_);intro a5' n5' c5' w8 hl hs8 hg;have hk:=(hg.block w1.heap.size (by omega) (fun e=>by have:=HOB.out _ e.symm;omega)).trans KY.out;have cc:=Qa hk 5 _ rfl;have ff:w8.frozen? ⟨w1.heap.size,5,none⟩=false:=frozen_of_row _ _ _ _ _ hk;have hz:=(hg.block (w.heap.size+1) (by omega) (fun e=>by have:=HOB.out _ e.symm;omega)).trans KZ.out;have hq:=(hg.block w.heap.size (by omega) (fun e=>by have:=HOB.out _ e.symm;omega)).trans HQX.out;have hT:=((BG.out.weak (X':=(fun b=>b=w1.heap.size\/(c 2<=b/\b<c 3))) (fun b hb => .inl hb))).trans (ButX.grown hg (fun k hk => .inl (.inr (HOB.out k hk))));have hB:=BW.out.grown hg BW.out.size (fun k hk=>by have:=HOB.out k hk;omega);clear KY BW;have KY:=Lib.hid hk;clear KZ HQX;have KZ:=Lib.hid hz;have KQ:=Lib.hid hq;have TX:=Lib.hid (show ButX (fun b=>b=w1.heap.size\/(c 2<=b/\b<c 3)) wx w8 from ButX.grown hg (fun k hk => .inl (.inr (HOB.out k hk))));have BW:=Lib.hid hB;have HL:=Lib.hid hl;have S8:=Lib.hid hs8;have SW:=Lib.hid (Nat.le_refl w8.heap.size);have T8:=Lib.hid (ButX.refl (fun b=>b=w1.heap.size) w8);clear hk hz hq hT hB hl hs8 hg;refine hK _ _ ?_;clear hK K)
   clear y5 cc ff hs3 hs4 hs5 hsm hs1 hs2 hsW hsH hm0 hm9 hm1 hm2 hm3 hm4 hm5 hm6 hm7 hm8 hm8'
   clear hj hy0 hy1 hy2
   have hk0:(((w8)).setCell ⟨w1.heap.size,5,none⟩ (.slice a5' n5' c5')).heap[w1.heap.size]? = some (.cells #[.int .i64 pc,.slice ua1 k1 d1,.slice ua2 k2 d2,.bool last,.bool redo,.slice a5' n5' c5',.slice ua6 k6 d6,.slice ua7 k7 d7,.slice ua8 k8 d8,.slice ua9 k9 d9,.slice ua10 k10 d10,.slice ua11 k11 d11,.int .i64 loss,.bool sat] 32 (0,0)):=by
    have:=heap_setCell_same ((w8)) w1.heap.size 5 _ _ (.slice a5' n5' c5') KY.out
    simpa only [List.setIfInBounds_toArray,List.set_cons_zero,List.set_cons_succ] using this
   have hsW:=HW.out
   have hz:(((w8)).setCell ⟨w1.heap.size,5,none⟩ (.slice a5' n5' c5')).heap[w.heap.size+1]? = _:=((heap_setCell_other _ _ _ _ (by show w.heap.size+1≠w1.heap.size;omega)).trans KZ.out)
   have hq:(((w8)).setCell ⟨w1.heap.size,5,none⟩ (.slice a5' n5' c5')).heap[w.heap.size]? = _:=((heap_setCell_other _ _ _ _ (by show w.heap.size≠w1.heap.size;omega)).trans KQ.out)
   have hT:ButX (fun b=>b=w1.heap.size\/(c 2<=b/\b<c 3)) wx (((w8)).setCell ⟨w1.heap.size,5,none⟩ (.slice a5' n5' c5')):=(TX.out.trans (ButX.stored (X:=(fun b=>b=w1.heap.size\/(c 2<=b/\b<c 3))) (g:=w1.heap.size) (.inl rfl) ((w8)) 5 (.slice a5' n5' c5')))
   have hB:Below w.heap.size w (((w8)).setCell ⟨w1.heap.size,5,none⟩ (.slice a5' n5' c5')):=(BW.out.setCell (p:=⟨w1.heap.size,5,none⟩) (by show w.heap.size<=w1.heap.size;omega) (.slice a5' n5' c5'))
   have hSW:w8.heap.size<=(((w8)).setCell ⟨w1.heap.size,5,none⟩ (.slice a5' n5' c5')).heap.size:=(Nat.le_trans SW.out (by simp:(w8).heap.size<=(((w8)).setCell ⟨w1.heap.size,5,none⟩ (.slice a5' n5' c5')).heap.size))
   have hT8:ButX (fun b=>b=w1.heap.size) w8 (((w8)).setCell ⟨w1.heap.size,5,none⟩ (.slice a5' n5' c5')):=(T8.out.trans (ButX.stored (X:=(fun b=>b=w1.heap.size)) (g:=w1.heap.size) rfl ((w8)) 5 (.slice a5' n5' c5')))
   clear KY KZ KQ TX BW SW T8 hsW
   generalize ((w8)).setCell ⟨w1.heap.size,5,none⟩ (.slice a5' n5' c5')=W9 at hk0 hz hq hT hB hSW hT8 |-
   have T8:=Lib.hid hT8
   have KY:=Lib.hid hk0
   have KZ:=Lib.hid hz
   have KQ:=Lib.hid hq
   have TX:=Lib.hid hT
   have BW:=Lib.hid hB
   have SW:=Lib.hid hSW
   clear hk0 hz hq hT hB hSW hT8
   have cc:=Qa KY.out 7 _ rfl
   have ff:W9.frozen? ⟨w1.heap.size,7,none⟩=false:=frozen_of_row _ _ _ _ _ KY.out
   go_upto_region 10 with fail
   clear cc ff
   have hk0:(((W9)).setCell ⟨w1.heap.size,7,none⟩ (.slice none 0 0)).heap[w1.heap.size]? = some (.cells #[.int .i64 pc,.slice ua1 k1 d1,.slice ua2 k2 d2,.bool last,.bool redo,.slice a5' n5' c5',.slice ua6 k6 d6,.slice none 0 0,.slice ua8 k8 d8,.slice ua9 k9 d9,.slice ua10 k10 d10,.slice ua11 k11 d11,.int .i64 loss,.bool sat] 32 (0,0)):=by
    have:=heap_setCell_same ((W9)) w1.heap.size 7 _ _ (.slice none 0 0) KY.out
    simpa only [List.setIfInBounds_toArray,List.set_cons_zero,List.set_cons_succ] using this
   have hsW:=HW.out
   have hz:(((W9)).setCell ⟨w1.heap.size,7,none⟩ (.slice none 0 0)).heap[w.heap.size+1]? = _:=((heap_setCell_other _ _ _ _ (by show w.heap.size+1≠w1.heap.size;omega)).trans KZ.out)
   have hq:(((W9)).setCell ⟨w1.heap.size,7,none⟩ (.slice none 0 0)).heap[w.heap.size]? = _:=((heap_setCell_other _ _ _ _ (by show w.heap.size≠w1.heap.size;omega)).trans KQ.out)
   have hT:ButX (fun b=>b=w1.heap.size\/(c 2<=b/\b<c 3)) wx (((W9)).setCell ⟨w1.heap.size,7,none⟩ (.slice none 0 0)):=(TX.out.trans (ButX.stored (X:=(fun b=>b=w1.heap.size\/(c 2<=b/\b<c 3))) (g:=w1.heap.size) (.inl rfl) ((W9)) 7 (.slice none 0 0)))
   have hB:Below w.heap.size w (((W9)).setCell ⟨w1.heap.size,7,none⟩ (.slice none 0 0)):=(BW.out.setCell (p:=⟨w1.heap.size,7,none⟩) (by show w.heap.size<=w1.heap.size;omega) (.slice none 0 0))
   have hSW:w8.heap.size<=(((W9)).setCell ⟨w1.heap.size,7,none⟩ (.slice none 0 0)).heap.size:=(Nat.le_trans SW.out (by simp:(W9).heap.size<=(((W9)).setCell ⟨w1.heap.size,7,none⟩ (.slice none 0 0)).heap.size))
   have hT8:ButX (fun b=>b=w1.heap.size) w8 (((W9)).setCell ⟨w1.heap.size,7,none⟩ (.slice none 0 0)):=(T8.out.trans (ButX.stored (X:=(fun b=>b=w1.heap.size)) (g:=w1.heap.size) rfl ((W9)) 7 (.slice none 0 0)))
   clear KY KZ KQ TX BW SW T8 hsW
   generalize ((W9)).setCell ⟨w1.heap.size,7,none⟩ (.slice none 0 0)=W10 at hk0 hz hq hT hB hSW hT8 |-
   have T8:=Lib.hid hT8
   have KY:=Lib.hid hk0
   have KZ:=Lib.hid hz
   have KQ:=Lib.hid hq
   have TX:=Lib.hid hT
   have BW:=Lib.hid hB
   have SW:=Lib.hid hSW
   clear hk0 hz hq hT hB hSW hT8
   have cc:=Qa KY.out 13 _ rfl
   have ff:W10.frozen? ⟨w1.heap.size,13,none⟩=false:=frozen_of_row _ _ _ _ _ KY.out
   have z13:=Qa KQ.out 13 _ rfl
   obtain ⟨V,hV⟩ : ∃ V,(sat || SB)=V:=⟨_,rfl⟩
   have HVV:=Lib.hid hV
   clear hV
   go_cut [11] (fun t wy=>wy=W10.setCell ⟨w1.heap.size,13,none⟩ (.bool V))
   case first =>
    cases sat
    all_goals
     have hvv:=HVV.out
     simp only [Bool.or_true,Bool.or_false,Bool.true_or,Bool.false_or] at hvv
     subst hvv
     clear HVV
     go_wp2_with fail
     go_meet
     case rel=>rfl
   case rest =>
    subst hcut
    clear cc ff z13
    have hk0:(((W10)).setCell ⟨w1.heap.size,13,none⟩ (.bool V)).heap[w1.heap.size]? = some (.cells #[.int .i64 pc,.slice ua1 k1 d1,.slice ua2 k2 d2,.bool last,.bool redo,.slice a5' n5' c5',.slice ua6 k6 d6,.slice none 0 0,.slice ua8 k8 d8,.slice ua9 k9 d9,.slice ua10 k10 d10,.slice ua11 k11 d11,.int .i64 loss,.bool V] 32 (0,0)):=by
     have:=heap_setCell_same ((W10)) w1.heap.size 13 _ _ (.bool V) KY.out
     simpa only [List.setIfInBounds_toArray,List.set_cons_zero,List.set_cons_succ] using this
    have hsW:=HW.out
    have hz:(((W10)).setCell ⟨w1.heap.size,13,none⟩ (.bool V)).heap[w.heap.size+1]? = _:=((heap_setCell_other _ _ _ _ (by show w.heap.size+1≠w1.heap.size;omega)).trans KZ.out)
    have hq:(((W10)).setCell ⟨w1.heap.size,13,none⟩ (.bool V)).heap[w.heap.size]? = _:=((heap_setCell_other _ _ _ _ (by show w.heap.size≠w1.heap.size;omega)).trans KQ.out)
    have hT:ButX (fun b=>b=w1.heap.size\/(c 2<=b/\b<c 3)) wx (((W10)).setCell ⟨w1.heap.size,13,none⟩ (.bool V)):=(TX.out.trans (ButX.stored (X:=(fun b=>b=w1.heap.size\/(c 2<=b/\b<c 3))) (g:=w1.heap.size) (.inl rfl) ((W10)) 13 (.bool V)))
    have hB:Below w.heap.size w (((W10)).setCell ⟨w1.heap.size,13,none⟩ (.bool V)):=(BW.out.setCell (p:=⟨w1.heap.size,13,none⟩) (by show w.heap.size<=w1.heap.size;omega) (.bool V))
    have hSW:w8.heap.size<=(((W10)).setCell ⟨w1.heap.size,13,none⟩ (.bool V)).heap.size:=(Nat.le_trans SW.out (by simp:(W10).heap.size<=(((W10)).setCell ⟨w1.heap.size,13,none⟩ (.bool V)).heap.size))
    have hT8:ButX (fun b=>b=w1.heap.size) w8 (((W10)).setCell ⟨w1.heap.size,13,none⟩ (.bool V)):=(T8.out.trans (ButX.stored (X:=(fun b=>b=w1.heap.size)) (g:=w1.heap.size) rfl ((W10)) 13 (.bool V)))
    clear KY KZ KQ TX BW SW T8 hsW
    generalize ((W10)).setCell ⟨w1.heap.size,13,none⟩ (.bool V)=W11 at hk0 hz hq hT hB hSW hT8 |-
    have T8:=Lib.hid hT8
    have KY:=Lib.hid hk0
    have KZ:=Lib.hid hz
    have KQ:=Lib.hid hq
    have TX:=Lib.hid hT
    have BW:=Lib.hid hB
    have SW:=Lib.hid hSW
    clear hk0 hz hq hT hB hSW hT8
    have z3:=Qa KQ.out 3 _ rfl
    cases last
    ·skip
     have cc:=Qa KY.out 8 _ rfl
     have ff:W11.frozen? ⟨w1.heap.size,8,none⟩=false:=frozen_of_row _ _ _ _ _ KY.out
     go_upto_region 14 with fail
     clear cc ff z3
     have hk0:(((W11)).setCell ⟨w1.heap.size,8,none⟩ (.slice ak no ck)).heap[w1.heap.size]? = some (.cells #[.int .i64 pc,.slice ua1 k1 d1,.slice ua2 k2 d2,.bool false,.bool redo,.slice a5' n5' c5',.slice ua6 k6 d6,.slice none 0 0,.slice ak no ck,.slice ua9 k9 d9,.slice ua10 k10 d10,.slice ua11 k11 d11,.int .i64 loss,.bool V] 32 (0,0)):=by
      have:=heap_setCell_same ((W11)) w1.heap.size 8 _ _ (.slice ak no ck) KY.out
      simpa only [List.setIfInBounds_toArray,List.set_cons_zero,List.set_cons_succ] using this
     have hsW:=HW.out
     have hz:(((W11)).setCell ⟨w1.heap.size,8,none⟩ (.slice ak no ck)).heap[w.heap.size+1]? = _:=((heap_setCell_other _ _ _ _ (by show w.heap.size+1≠w1.heap.size;omega)).trans KZ.out)
     have hq:(((W11)).setCell ⟨w1.heap.size,8,none⟩ (.slice ak no ck)).heap[w.heap.size]? = _:=((heap_setCell_other _ _ _ _ (by show w.heap.size≠w1.heap.size;omega)).trans KQ.out)
     have hT:ButX (fun b=>b=w1.heap.size\/(c 2<=b/\b<c 3)) wx (((W11)).setCell ⟨w1.heap.size,8,none⟩ (.slice ak no ck)):=(TX.out.trans (ButX.stored (X:=(fun b=>b=w1.heap.size\/(c 2<=b/\b<c 3))) (g:=w1.heap.size) (.inl rfl) ((W11)) 8 (.slice ak no ck)))
     have hB:Below w.heap.size w (((W11)).setCell ⟨w1.heap.size,8,none⟩ (.slice ak no ck)):=(BW.out.setCell (p:=⟨w1.heap.size,8,none⟩) (by show w.heap.size<=w1.heap.size;omega) (.slice ak no ck))
     have hSW:w8.heap.size<=(((W11)).setCell ⟨w1.heap.size,8,none⟩ (.slice ak no ck)).heap.size:=(Nat.le_trans SW.out (by simp:(W11).heap.size<=(((W11)).setCell ⟨w1.heap.size,8,none⟩ (.slice ak no ck)).heap.size))
     have hT8:ButX (fun b=>b=w1.heap.size) w8 (((W11)).setCell ⟨w1.heap.size,8,none⟩ (.slice ak no ck)):=(T8.out.trans (ButX.stored (X:=(fun b=>b=w1.heap.size)) (g:=w1.heap.size) rfl ((W11)) 8 (.slice ak no ck)))
     clear KY KZ KQ TX BW SW T8 hsW
     generalize ((W11)).setCell ⟨w1.heap.size,8,none⟩ (.slice ak no ck)=W12 at hk0 hz hq hT hB hSW hT8 |-
     have T8:=Lib.hid hT8
     have KY:=Lib.hid hk0
     have KZ:=Lib.hid hz
     have KQ:=Lib.hid hq
     have TX:=Lib.hid hT
     have BW:=Lib.hid hB
     have SW:=Lib.hid hSW
     clear hk0 hz hq hT hB hSW hT8
     have FINAL:Hid (∀ wf,ButX (fun b=>b=w.heap.size+1) W12 wf->Below w.heap.size w wf -> ∃ es',Ending.returned (.agg #[.int .i64 pc,.slice ua1 k1 d1,.slice ua2 k2 d2,.bool false,.bool redo,.slice a5' n5' c5',.slice ua6 k6 d6,.slice none 0 0,.slice ak no ck,.slice ua9 k9 d9,.slice ua10 k10 d10,.slice ua11 k11 d11,.int .i64 loss,.bool V]) = .returned (.agg (es':List Value).toArray)/\Qg.owns (Zb w.heap.size wf.heap.size) wf es' (fwdN (pc,plan,ops,false,redo,stash,full,xs,ys,gs,ds,rows,loss,sat) m X Y)/\Below w.heap.size w wf):=Lib.hid fun wf he hbw=>by
      have hs1:=SZ.out
      have hs2:=HQ.out.size
      have hsW:=HW.out
      have hsH:=HS.out
      obtain ⟨⟨hm0,hm9⟩,hm1,hm2,hm3,hm4,hm5,hm6,hm7,hm8,hm8'⟩:=HM.out
      have hsw:=SW.out
      have hs8:=S8.out
      have hs3:=HB3.out.size
      have hs4:=HB4.out.size
      have hs5:=S5.out
      have hsm:=HBM.out.size
      have h1e:=((T1q.out.trans BG.out).weak (X':=(fun b=>b=w1.heap.size\/(c 2<=b/\b<c 3))) (fun b hb => .inl hb)).trans TX.out
      have hz2:=h1e.1
      have hz3:=he.1
      let J:Nat->Nat->Prop:=fun i b=>match i with | 0=>c 0<=b/\b<c 1 | 1=>c 1<=b/\b<c 2 | 2=>((c 2<=b/\b<c 3)\/((wm.heap.size<=b/\b<w3.heap.size)\/(w4.heap.size<=b/\b<wx.heap.size))\/(wx.heap.size<b/\b<w8.heap.size)) | 3=>c 3<=b/\b<c 4 | 4=>False | 5=>w3.heap.size<=b/\b<w4.heap.size | 6=>c 6<=b/\b<c 7 | 7=>c 7<=b/\b<c 8 | _=>c 8<=b/\b<c 9
      refine ⟨[.int .i64 pc,.slice ua1 k1 d1,.slice ua2 k2 d2,.bool false,.bool redo,.slice a5' n5' c5',.slice ua6 k6 d6,.slice none 0 0,.slice ak no ck,.slice ua9 k9 d9,.slice ua10 k10 d10,.slice ua11 k11 d11,.int .i64 loss,.bool V],rfl,?_,hbw⟩
      rw [(show fwdN (pc,plan,ops,false,redo,stash,full,xs,ys,gs,ds,rows,loss,sat) m X Y=(pc,plan,ops,false,redo,stash ++ [(m,RW)],full,[],xo,gs,ds,rows,loss,V) from by rw [Qfm HP.out];show (pc,plan,ops,false,redo,stash ++ [(m,(Zt (pc,plan,ops,false,redo,stash,full,xs,ys,gs,ds,rows,loss,sat) m X).2)],full,[],inK ops X ops.length,gs,ds,rows,loss,(sat || inKB ops X ops.length))=_;rw [N2.out,HXE.out,HSB.out,HRW.out,HVV.out])]
      refine NineO.own (J:=J) (s:=(pc,plan,ops,false,redo,stash ++ [(m,RW)],full,[],xo,gs,ds,rows,loss,V)) ⟨?_,?_,?_,?_,?_,?_,?_,?_,?_,?_⟩ ?_
      ·exact Owned.ownsBut _ (Owned.ownsBut _ O1.out h1e (fun b o f=>⟨by rintro (h | ⟨h,h'⟩) <;> (have h1:=f.1;have h2:=f.2;omega),by have h1:=f.1;have h2:=f.2;omega⟩)) he (fun b o f=>⟨fun h=>by have h1:=f.1;have h2:=f.2;omega,by have h1:=f.1;have h2:=f.2;omega⟩)
      ·exact Owned.ownsBut _ (Owned.ownsBut _ O2.out h1e (fun b o f=>⟨by rintro (h | ⟨h,h'⟩) <;> (have h1:=f.1;have h2:=f.2;omega),by have h1:=f.1;have h2:=f.2;omega⟩)) he (fun b o f=>⟨fun h=>by have h1:=f.1;have h2:=f.2;omega,by have h1:=f.1;have h2:=f.2;omega⟩)
      ·exact Owned.ownsBut _ (Owned.ownsBut _ (Qbo.own HL.out (by decide)) (X:=fun b=>b=w1.heap.size) T8.out (fun b o f=>by replace f:((From (c 2) (c 3) b)\/((wm.heap.size<=b/\b<w3.heap.size)\/(w4.heap.size<=b/\b<wx.heap.size))\/(wx.heap.size<b/\b<w8.heap.size)):=f;unfold From at f;exact ⟨by show ¬ b=w1.heap.size;omega,by omega⟩)) he (fun b o f=>by replace f:((From (c 2) (c 3) b)\/((wm.heap.size<=b/\b<w3.heap.size)\/(w4.heap.size<=b/\b<wx.heap.size))\/(wx.heap.size<b/\b<w8.heap.size)):=f;unfold From at f;exact ⟨fun h=>by omega,by omega⟩)
      ·exact Owned.ownsBut _ (Owned.ownsBut _ O6.out h1e (fun b o f=>⟨by rintro (h | ⟨h,h'⟩) <;> (have h1:=f.1;have h2:=f.2;omega),by have h1:=f.1;have h2:=f.2;omega⟩)) he (fun b o f=>⟨fun h=>by have h1:=f.1;have h2:=f.2;omega,by have h1:=f.1;have h2:=f.2;omega⟩)
      ·exact ⟨none,0,0,rfl,Nat.le_refl _,by omega,rfl,.inl rfl⟩
      ·exact Owned.ownsBut _ (Owned.ownsBut _ (OwnI.ofRow (HRK.out)).2 ((ButX.called HBX.out).trans TX.out) (fun b o f=>⟨by rintro (h | ⟨h,h'⟩) <;> (have h1:=f.1;omega),f.2⟩)) he (fun b o f=>⟨fun h=>by have h1:=f.1;omega,by have h2:=f.2;omega⟩)
      ·exact Owned.ownsBut _ (Owned.ownsBut _ O9.out h1e (fun b o f=>⟨by rintro (h | ⟨h,h'⟩) <;> (have h1:=f.1;have h2:=f.2;omega),by have h1:=f.1;have h2:=f.2;omega⟩)) he (fun b o f=>⟨fun h=>by have h1:=f.1;have h2:=f.2;omega,by have h1:=f.1;have h2:=f.2;omega⟩)
      ·exact Owned.ownsBut _ (Owned.ownsBut _ O10.out h1e (fun b o f=>⟨by rintro (h | ⟨h,h'⟩) <;> (have h1:=f.1;have h2:=f.2;omega),by have h1:=f.1;have h2:=f.2;omega⟩)) he (fun b o f=>⟨fun h=>by have h1:=f.1;have h2:=f.2;omega,by have h1:=f.1;have h2:=f.2;omega⟩)
      ·exact Owned.ownsBut _ (Owned.ownsBut _ O11.out h1e (fun b o f=>⟨by rintro (h | ⟨h,h'⟩) <;> (have h1:=f.1;have h2:=f.2;omega),by have h1:=f.1;have h2:=f.2;omega⟩)) he (fun b o f=>⟨fun h=>by have h1:=f.1;have h2:=f.2;omega,by have h1:=f.1;have h2:=f.2;omega⟩)
      ·intro i j b hi hj f g
       have hJ:(J 0 b ↔ (c 0<=b/\b<c 1))/\(J 1 b ↔ (c 1<=b/\b<c 2))/\(J 2 b ↔ (((c 2<=b/\b<c 3)\/((wm.heap.size<=b/\b<w3.heap.size)\/(w4.heap.size<=b/\b<wx.heap.size))\/(wx.heap.size<b/\b<w8.heap.size))))/\(J 3 b ↔ (c 3<=b/\b<c 4))/\(J 4 b ↔ (False))/\(J 5 b ↔ (w3.heap.size<=b/\b<w4.heap.size))/\(J 6 b ↔ (c 6<=b/\b<c 7))/\(J 7 b ↔ (c 7<=b/\b<c 8))/\(J 8 b ↔ (c 8<=b/\b<c 9)):=⟨Iff.rfl,Iff.rfl,Iff.rfl,Iff.rfl,Iff.rfl,Iff.rfl,Iff.rfl,Iff.rfl,Iff.rfl⟩
       obtain ⟨r0,r1,r2,r3,r4,r5,r6,r7,r8⟩:=hJ
       rcases (show i=0\/i=1\/i=2\/i=3\/i=4\/i=5\/i=6\/i=7\/i=8 from by omega) with rfl | rfl | rfl | rfl | rfl | rfl | rfl | rfl | rfl <;> rcases (show j=0\/j=1\/j=2\/j=3\/j=4\/j=5\/j=6\/j=7\/j=8 from by omega) with rfl | rfl | rfl | rfl | rfl | rfl | rfl | rfl | rfl <;> first
        | exact absurd hi (by decide)
        | (simp only [r0,r1,r2,r3,r4,r5,r6,r7,r8] at f g <;> omega)
      ·intro i b hi f
       have hJ:(J 0 b ↔ (c 0<=b/\b<c 1))/\(J 1 b ↔ (c 1<=b/\b<c 2))/\(J 2 b ↔ (((c 2<=b/\b<c 3)\/((wm.heap.size<=b/\b<w3.heap.size)\/(w4.heap.size<=b/\b<wx.heap.size))\/(wx.heap.size<b/\b<w8.heap.size))))/\(J 3 b ↔ (c 3<=b/\b<c 4))/\(J 4 b ↔ (False))/\(J 5 b ↔ (w3.heap.size<=b/\b<w4.heap.size))/\(J 6 b ↔ (c 6<=b/\b<c 7))/\(J 7 b ↔ (c 7<=b/\b<c 8))/\(J 8 b ↔ (c 8<=b/\b<c 9)):=⟨Iff.rfl,Iff.rfl,Iff.rfl,Iff.rfl,Iff.rfl,Iff.rfl,Iff.rfl,Iff.rfl,Iff.rfl⟩
       obtain ⟨r0,r1,r2,r3,r4,r5,r6,r7,r8⟩:=hJ
       rcases (show i=0\/i=1\/i=2\/i=3\/i=4\/i=5\/i=6\/i=7\/i=8 from by omega) with rfl | rfl | rfl | rfl | rfl | rfl | rfl | rfl | rfl <;> (simp only [r0,r1,r2,r3,r4,r5,r6,r7,r8] at f <;> omega)
     have hsW:=HW.out
     have y0:=Qa (KY.out) 0 _ rfl
     have y1:=Qa (KY.out) 1 _ rfl
     have y2:=Qa (KY.out) 2 _ rfl
     have y3:=Qa (KY.out) 3 _ rfl
     have y4:=Qa (KY.out) 4 _ rfl
     have y5:=Qa (KY.out) 5 _ rfl
     have y6:=Qa (KY.out) 6 _ rfl
     have y7:=Qa (KY.out) 7 _ rfl
     have y8:=Qa (KY.out) 8 _ rfl
     have y9:=Qa (KY.out) 9 _ rfl
     have y10:=Qa (KY.out) 10 _ rfl
     have y11:=Qa (KY.out) 11 _ rfl
     have y12:=Qa (KY.out) 12 _ rfl
     have y13:=Qa (KY.out) 13 _ rfl
     have hzz:=KZ.out
     have cz0:=Qa hzz 0 _ rfl
     have f0:W12.frozen? ⟨w.heap.size+1,0,none⟩=false:=frozen_of_row _ _ _ _ _ hzz
     have cz1:=Qa hzz 1 _ rfl
     have f1:W12.frozen? ⟨w.heap.size+1,1,none⟩=false:=frozen_of_row _ _ _ _ _ hzz
     have cz2:=Qa hzz 2 _ rfl
     have f2:W12.frozen? ⟨w.heap.size+1,2,none⟩=false:=frozen_of_row _ _ _ _ _ hzz
     have cz3:=Qa hzz 3 _ rfl
     have f3:W12.frozen? ⟨w.heap.size+1,3,none⟩=false:=frozen_of_row _ _ _ _ _ hzz
     have cz4:=Qa hzz 4 _ rfl
     have f4:W12.frozen? ⟨w.heap.size+1,4,none⟩=false:=frozen_of_row _ _ _ _ _ hzz
     have cz5:=Qa hzz 5 _ rfl
     have f5:W12.frozen? ⟨w.heap.size+1,5,none⟩=false:=frozen_of_row _ _ _ _ _ hzz
     have cz6:=Qa hzz 6 _ rfl
     have f6:W12.frozen? ⟨w.heap.size+1,6,none⟩=false:=frozen_of_row _ _ _ _ _ hzz
     have cz7:=Qa hzz 7 _ rfl
     have f7:W12.frozen? ⟨w.heap.size+1,7,none⟩=false:=frozen_of_row _ _ _ _ _ hzz
     have cz8:=Qa hzz 8 _ rfl
     have f8:W12.frozen? ⟨w.heap.size+1,8,none⟩=false:=frozen_of_row _ _ _ _ _ hzz
     have cz9:=Qa hzz 9 _ rfl
     have f9:W12.frozen? ⟨w.heap.size+1,9,none⟩=false:=frozen_of_row _ _ _ _ _ hzz
     have cz10:=Qa hzz 10 _ rfl
     have f10:W12.frozen? ⟨w.heap.size+1,10,none⟩=false:=frozen_of_row _ _ _ _ _ hzz
     have cz11:=Qa hzz 11 _ rfl
     have f11:W12.frozen? ⟨w.heap.size+1,11,none⟩=false:=frozen_of_row _ _ _ _ _ hzz
     have cz12:=Qa hzz 12 _ rfl
     have f12:W12.frozen? ⟨w.heap.size+1,12,none⟩=false:=frozen_of_row _ _ _ _ _ hzz
     have cz13:=Qa hzz 13 _ rfl
     have f13:W12.frozen? ⟨w.heap.size+1,13,none⟩=false:=frozen_of_row _ _ _ _ _ hzz
     obtain ⟨e1,e2,e3,e4⟩:=Zn hzz (.int .i64 pc) (.slice ua1 k1 d1) (.slice ua2 k2 d2) (.bool false) (.bool redo) (.slice a5' n5' c5') (.slice ua6 k6 d6) (.slice none 0 0) (.slice ak no ck) (.slice ua9 k9 d9) (.slice ua10 k10 d10) (.slice ua11 k11 d11) (.int .i64 loss) (.bool V)
     have hE:=ButX.ended (X:=fun b=>b=w.heap.size+1) e2 e3 rfl
     have E1:=Lib.hid e1
     have E4:=Lib.hid (e4 w.heap.size w (by omega) BW.out)
     have HE:=Lib.hid hE
     clear e1 e2 e3 e4 hE hzz hsW
     go_wp2_with fail
     refine bodyPost_ret (results_cell_row rfl _ _ (w.heap.size+1) 32 #[.int .i64 pc,.slice ua1 k1 d1,.slice ua2 k2 d2,.bool false,.bool redo,.slice a5' n5' c5',.slice ua6 k6 d6,.slice none 0 0,.slice ak no ck,.slice ua9 k9 d9,.slice ua10 k10 d10,.slice ua11 k11 d11,.int .i64 loss,.bool V] (0,0) _ rfl E1.out Tryz.underlying32 rfl (by kernel_rfl)) rfl ?_
     exact FINAL.out _ HE.out E4.out
    ·skip
     have hs3:=HB3.out.size
     have hs4:=HB4.out.size
     have hs5:=S5.out
     have hs8:=S8.out
     have hsm:=HBM.out.size
     have hsW:=HW.out
     have hsH:=HS.out
     have hs1:=SZ.out
     have hs2:=HQ.out.size
     obtain ⟨⟨hm0,hm9⟩,hm1,hm2,hm3,hm4,hm5,hm6,hm7,hm8,hm8'⟩:=HM.out
     have hsw:=SW.out
     have hll:LL Shape.int w3.heap.size w4.heap.size W11 (.slice ak no ck) xo:=(LL.ofRow HRK.out).but ((ButX.called (X:=(fun b=>b=w1.heap.size\/(c 2<=b/\b<c 3))) HBX.out).trans TX.out) (fun b h1 h2=>by rintro (h | ⟨h,h'⟩) <;> omega)
     obtain ⟨hw4,a',n',c',e',-,-,hla⟩:=hll
     cases e'
     have hin:=(hla.sub (J:=Qf W11.heap.size) (fun b hb=>Nat.lt_of_lt_of_le hb.2 hw4)).ints (by have:=HX6.out;omega)
     have HAD:=Lib.hid (Qh5 W11 ua11 k11 d11 loss V ak no ck xo hin at' nt ct Y ((HT.out.below BW.out (Nat.le_refl _)).le BW.out.size) (HGX.out W11 BW.out))
     obtain ⟨SU,hSU⟩ : ∃ q,addN loss (Qce xo Y)=q:=⟨_,rfl⟩
     obtain ⟨V2,hV2⟩ : ∃ q,(V || Qes xo Y || addB loss (Qce xo Y))=q:=⟨_,rfl⟩
     rw [hSU,hV2] at HAD
     have HSU:=Lib.hid hSU
     have HV2:=Lib.hid hV2
     have m11:=Qa KY.out 11 _ rfl
     have m12:=Qa KY.out 12 _ rfl
     have m13:=Qa KY.out 13 _ rfl
     clear hw4 hla hin hSU hV2 hsw hs3 hs4 hs5 hs8 hsm hsW hsH hs1 hs2 hm0 hm9 hm1 hm2 hm3 hm4 hm5 hm6 hm7 hm8 hm8'
     go_wp2_with fail
     refine HAD.out.mono ?_
     rintro e w12 ⟨rfl,hb⟩
     clear m11 m12 m13 z3 HAD
     have hs3:=HB3.out.size
     have hs4:=HB4.out.size
     have hs5:=S5.out
     have hs8:=S8.out
     have hsm:=HBM.out.size
     have hsW:=HW.out
     have hsH:=HS.out
     have hs1:=SZ.out
     have hs2:=HQ.out.size
     obtain ⟨⟨hm0,hm9⟩,hm1,hm2,hm3,hm4,hm5,hm6,hm7,hm8,hm8'⟩:=HM.out
     have hsw:=SW.out
     have hk:=(hb.block w1.heap.size (by omega)).trans KY.out
     have hz:=(hb.block (w.heap.size+1) (by omega)).trans KZ.out
     have hq:=(hb.block w.heap.size (by omega)).trans KQ.out
     have hT:=TX.out.trans (ButX.called (X:=(fun b=>b=w1.heap.size\/(c 2<=b/\b<c 3))) hb)
     have hT8:=T8.out.trans (ButX.called (X:=(fun b=>b=w1.heap.size)) hb)
     have hB:=BW.out.trans (hb.mono BW.out.size)
     have hSW:=Nat.le_trans SW.out hb.size
     clear KY KZ KQ TX T8 BW SW hb hsw hs3 hs4 hs5 hs8 hsm hsW hsH hs1 hs2 hm0 hm9 hm1 hm2 hm3 hm4 hm5 hm6 hm7 hm8 hm8'
     have KY:=Lib.hid hk
     have KZ:=Lib.hid hz
     have KQ:=Lib.hid hq
     have TX:=Lib.hid hT
     have T8:=Lib.hid hT8
     have BW:=Lib.hid hB
     have SW:=Lib.hid hSW
     clear hk hz hq hT hT8 hB hSW
     have cc11:=Qa KY.out 11 _ rfl
     have ff11:w12.frozen? ⟨w1.heap.size,11,none⟩=false:=frozen_of_row _ _ _ _ _ KY.out
     have cc12:=Qa KY.out 12 _ rfl
     have ff12:w12.frozen? ⟨w1.heap.size,12,none⟩=false:=frozen_of_row _ _ _ _ _ KY.out
     have cc13:=Qa KY.out 13 _ rfl
     have ff13:w12.frozen? ⟨w1.heap.size,13,none⟩=false:=frozen_of_row _ _ _ _ _ KY.out
     go_upto_region 14 with fail
     clear cc11 cc12 cc13 ff11 ff12 ff13
     have hk0:(((w12)).setCell ⟨w1.heap.size,11,none⟩ (.slice ua11 k11 d11)).heap[w1.heap.size]? = some (.cells #[.int .i64 pc,.slice ua1 k1 d1,.slice ua2 k2 d2,.bool true,.bool redo,.slice a5' n5' c5',.slice ua6 k6 d6,.slice none 0 0,.slice ua8 k8 d8,.slice ua9 k9 d9,.slice ua10 k10 d10,.slice ua11 k11 d11,.int .i64 loss,.bool V] 32 (0,0)):=by
      have:=heap_setCell_same ((w12)) w1.heap.size 11 _ _ (.slice ua11 k11 d11) KY.out
      simpa only [List.setIfInBounds_toArray,List.set_cons_zero,List.set_cons_succ] using this
     have hk1:((((w12)).setCell ⟨w1.heap.size,11,none⟩ (.slice ua11 k11 d11)).setCell ⟨w1.heap.size,12,none⟩ (.int .i64 SU)).heap[w1.heap.size]? = some (.cells #[.int .i64 pc,.slice ua1 k1 d1,.slice ua2 k2 d2,.bool true,.bool redo,.slice a5' n5' c5',.slice ua6 k6 d6,.slice none 0 0,.slice ua8 k8 d8,.slice ua9 k9 d9,.slice ua10 k10 d10,.slice ua11 k11 d11,.int .i64 SU,.bool V] 32 (0,0)):=by
      have:=heap_setCell_same (((w12)).setCell ⟨w1.heap.size,11,none⟩ (.slice ua11 k11 d11)) w1.heap.size 12 _ _ (.int .i64 SU) hk0
      simpa only [List.setIfInBounds_toArray,List.set_cons_zero,List.set_cons_succ] using this
     have hk2:(((((w12)).setCell ⟨w1.heap.size,11,none⟩ (.slice ua11 k11 d11)).setCell ⟨w1.heap.size,12,none⟩ (.int .i64 SU)).setCell ⟨w1.heap.size,13,none⟩ (.bool V2)).heap[w1.heap.size]? = some (.cells #[.int .i64 pc,.slice ua1 k1 d1,.slice ua2 k2 d2,.bool true,.bool redo,.slice a5' n5' c5',.slice ua6 k6 d6,.slice none 0 0,.slice ua8 k8 d8,.slice ua9 k9 d9,.slice ua10 k10 d10,.slice ua11 k11 d11,.int .i64 SU,.bool V2] 32 (0,0)):=by
      have:=heap_setCell_same ((((w12)).setCell ⟨w1.heap.size,11,none⟩ (.slice ua11 k11 d11)).setCell ⟨w1.heap.size,12,none⟩ (.int .i64 SU)) w1.heap.size 13 _ _ (.bool V2) hk1
      simpa only [List.setIfInBounds_toArray,List.set_cons_zero,List.set_cons_succ] using this
     have hsW:=HW.out
     have hz:(((((w12)).setCell ⟨w1.heap.size,11,none⟩ (.slice ua11 k11 d11)).setCell ⟨w1.heap.size,12,none⟩ (.int .i64 SU)).setCell ⟨w1.heap.size,13,none⟩ (.bool V2)).heap[w.heap.size+1]? = _:=((heap_setCell_other _ _ _ _ (by show w.heap.size+1≠w1.heap.size;omega)).trans ((heap_setCell_other _ _ _ _ (by show w.heap.size+1≠w1.heap.size;omega)).trans ((heap_setCell_other _ _ _ _ (by show w.heap.size+1≠w1.heap.size;omega)).trans KZ.out)))
     have hq:(((((w12)).setCell ⟨w1.heap.size,11,none⟩ (.slice ua11 k11 d11)).setCell ⟨w1.heap.size,12,none⟩ (.int .i64 SU)).setCell ⟨w1.heap.size,13,none⟩ (.bool V2)).heap[w.heap.size]? = _:=((heap_setCell_other _ _ _ _ (by show w.heap.size≠w1.heap.size;omega)).trans ((heap_setCell_other _ _ _ _ (by show w.heap.size≠w1.heap.size;omega)).trans ((heap_setCell_other _ _ _ _ (by show w.heap.size≠w1.heap.size;omega)).trans KQ.out)))
     have hT:ButX (fun b=>b=w1.heap.size\/(c 2<=b/\b<c 3)) wx (((((w12)).setCell ⟨w1.heap.size,11,none⟩ (.slice ua11 k11 d11)).setCell ⟨w1.heap.size,12,none⟩ (.int .i64 SU)).setCell ⟨w1.heap.size,13,none⟩ (.bool V2)):=(((TX.out.trans (ButX.stored (X:=(fun b=>b=w1.heap.size\/(c 2<=b/\b<c 3))) (g:=w1.heap.size) (.inl rfl) ((w12)) 11 (.slice ua11 k11 d11))).trans (ButX.stored (X:=(fun b=>b=w1.heap.size\/(c 2<=b/\b<c 3))) (g:=w1.heap.size) (.inl rfl) ((((w12)).setCell ⟨w1.heap.size,11,none⟩ (.slice ua11 k11 d11))) 12 (.int .i64 SU))).trans (ButX.stored (X:=(fun b=>b=w1.heap.size\/(c 2<=b/\b<c 3))) (g:=w1.heap.size) (.inl rfl) ((((((w12)).setCell ⟨w1.heap.size,11,none⟩ (.slice ua11 k11 d11))).setCell ⟨w1.heap.size,12,none⟩ (.int .i64 SU))) 13 (.bool V2)))
     have hB:Below w.heap.size w (((((w12)).setCell ⟨w1.heap.size,11,none⟩ (.slice ua11 k11 d11)).setCell ⟨w1.heap.size,12,none⟩ (.int .i64 SU)).setCell ⟨w1.heap.size,13,none⟩ (.bool V2)):=(((BW.out.setCell (p:=⟨w1.heap.size,11,none⟩) (by show w.heap.size<=w1.heap.size;omega) (.slice ua11 k11 d11)).setCell (p:=⟨w1.heap.size,12,none⟩) (by show w.heap.size<=w1.heap.size;omega) (.int .i64 SU)).setCell (p:=⟨w1.heap.size,13,none⟩) (by show w.heap.size<=w1.heap.size;omega) (.bool V2))
     have hSW:w8.heap.size<=(((((w12)).setCell ⟨w1.heap.size,11,none⟩ (.slice ua11 k11 d11)).setCell ⟨w1.heap.size,12,none⟩ (.int .i64 SU)).setCell ⟨w1.heap.size,13,none⟩ (.bool V2)).heap.size:=(Nat.le_trans (Nat.le_trans (Nat.le_trans SW.out (by simp:(w12).heap.size<=(((w12)).setCell ⟨w1.heap.size,11,none⟩ (.slice ua11 k11 d11)).heap.size)) (by simp:(((w12)).setCell ⟨w1.heap.size,11,none⟩ (.slice ua11 k11 d11)).heap.size<=(((((w12)).setCell ⟨w1.heap.size,11,none⟩ (.slice ua11 k11 d11))).setCell ⟨w1.heap.size,12,none⟩ (.int .i64 SU)).heap.size)) (by simp:(((((w12)).setCell ⟨w1.heap.size,11,none⟩ (.slice ua11 k11 d11))).setCell ⟨w1.heap.size,12,none⟩ (.int .i64 SU)).heap.size<=(((((((w12)).setCell ⟨w1.heap.size,11,none⟩ (.slice ua11 k11 d11))).setCell ⟨w1.heap.size,12,none⟩ (.int .i64 SU))).setCell ⟨w1.heap.size,13,none⟩ (.bool V2)).heap.size))
     have hT8:ButX (fun b=>b=w1.heap.size) w8 (((((w12)).setCell ⟨w1.heap.size,11,none⟩ (.slice ua11 k11 d11)).setCell ⟨w1.heap.size,12,none⟩ (.int .i64 SU)).setCell ⟨w1.heap.size,13,none⟩ (.bool V2)):=(((T8.out.trans (ButX.stored (X:=(fun b=>b=w1.heap.size)) (g:=w1.heap.size) rfl ((w12)) 11 (.slice ua11 k11 d11))).trans (ButX.stored (X:=(fun b=>b=w1.heap.size)) (g:=w1.heap.size) rfl ((((w12)).setCell ⟨w1.heap.size,11,none⟩ (.slice ua11 k11 d11))) 12 (.int .i64 SU))).trans (ButX.stored (X:=(fun b=>b=w1.heap.size)) (g:=w1.heap.size) rfl ((((((w12)).setCell ⟨w1.heap.size,11,none⟩ (.slice ua11 k11 d11))).setCell ⟨w1.heap.size,12,none⟩ (.int .i64 SU))) 13 (.bool V2)))
     clear KY KZ KQ TX BW SW T8 hsW hk0 hk1
     generalize ((((w12)).setCell ⟨w1.heap.size,11,none⟩ (.slice ua11 k11 d11)).setCell ⟨w1.heap.size,12,none⟩ (.int .i64 SU)).setCell ⟨w1.heap.size,13,none⟩ (.bool V2)=W13 at hk2 hz hq hT hB hSW hT8 |-
     have T8:=Lib.hid hT8
     have KY:=Lib.hid hk2
     have KZ:=Lib.hid hz
     have KQ:=Lib.hid hq
     have TX:=Lib.hid hT
     have BW:=Lib.hid hB
     have SW:=Lib.hid hSW
     clear hk2 hz hq hT hB hSW hT8
     have FINAL:Hid (∀ wf,ButX (fun b=>b=w.heap.size+1) W13 wf->Below w.heap.size w wf -> ∃ es',Ending.returned (.agg #[.int .i64 pc,.slice ua1 k1 d1,.slice ua2 k2 d2,.bool true,.bool redo,.slice a5' n5' c5',.slice ua6 k6 d6,.slice none 0 0,.slice ua8 k8 d8,.slice ua9 k9 d9,.slice ua10 k10 d10,.slice ua11 k11 d11,.int .i64 SU,.bool V2]) = .returned (.agg (es':List Value).toArray)/\Qg.owns (Zb w.heap.size wf.heap.size) wf es' (fwdN (pc,plan,ops,true,redo,stash,full,xs,ys,gs,ds,rows,loss,sat) m X Y)/\Below w.heap.size w wf):=Lib.hid fun wf he hbw=>by
      have hs1:=SZ.out
      have hs2:=HQ.out.size
      have hsW:=HW.out
      have hsH:=HS.out
      obtain ⟨⟨hm0,hm9⟩,hm1,hm2,hm3,hm4,hm5,hm6,hm7,hm8,hm8'⟩:=HM.out
      have hsw:=SW.out
      have hs8:=S8.out
      have hs3:=HB3.out.size
      have hs4:=HB4.out.size
      have hs5:=S5.out
      have hsm:=HBM.out.size
      have h1e:=((T1q.out.trans BG.out).weak (X':=(fun b=>b=w1.heap.size\/(c 2<=b/\b<c 3))) (fun b hb => .inl hb)).trans TX.out
      have hz2:=h1e.1
      have hz3:=he.1
      let J:Nat->Nat->Prop:=fun i b=>match i with | 0=>c 0<=b/\b<c 1 | 1=>c 1<=b/\b<c 2 | 2=>((c 2<=b/\b<c 3)\/((wm.heap.size<=b/\b<w3.heap.size)\/(w4.heap.size<=b/\b<wx.heap.size))\/(wx.heap.size<b/\b<w8.heap.size)) | 3=>c 3<=b/\b<c 4 | 4=>False | 5=>c 5<=b/\b<c 6 | 6=>c 6<=b/\b<c 7 | 7=>c 7<=b/\b<c 8 | _=>c 8<=b/\b<c 9
      refine ⟨[.int .i64 pc,.slice ua1 k1 d1,.slice ua2 k2 d2,.bool true,.bool redo,.slice a5' n5' c5',.slice ua6 k6 d6,.slice none 0 0,.slice ua8 k8 d8,.slice ua9 k9 d9,.slice ua10 k10 d10,.slice ua11 k11 d11,.int .i64 SU,.bool V2],rfl,?_,hbw⟩
      rw [(show fwdN (pc,plan,ops,true,redo,stash,full,xs,ys,gs,ds,rows,loss,sat) m X Y=(pc,plan,ops,true,redo,stash ++ [(m,RW)],full,[],ys,gs,ds,rows,SU,V2) from by rw [Qfm HP.out];show (pc,plan,ops,true,redo,stash ++ [(m,(Zt (pc,plan,ops,true,redo,stash,full,xs,ys,gs,ds,rows,loss,sat) m X).2)],full,[],ys,gs,ds,rows,addN loss (Qce (inK ops X ops.length) Y),((sat || inKB ops X ops.length) || Qes (inK ops X ops.length) Y || addB loss (Qce (inK ops X ops.length) Y)))=_;rw [N2.out,HXE.out,HSB.out,HVV.out,HSU.out,HV2.out,HRW.out])]
      refine NineO.own (J:=J) (s:=(pc,plan,ops,true,redo,stash ++ [(m,RW)],full,[],ys,gs,ds,rows,SU,V2)) ⟨?_,?_,?_,?_,?_,?_,?_,?_,?_,?_⟩ ?_
      ·exact Owned.ownsBut _ (Owned.ownsBut _ O1.out h1e (fun b o f=>⟨by rintro (h | ⟨h,h'⟩) <;> (have h1:=f.1;have h2:=f.2;omega),by have h1:=f.1;have h2:=f.2;omega⟩)) he (fun b o f=>⟨fun h=>by have h1:=f.1;have h2:=f.2;omega,by have h1:=f.1;have h2:=f.2;omega⟩)
      ·exact Owned.ownsBut _ (Owned.ownsBut _ O2.out h1e (fun b o f=>⟨by rintro (h | ⟨h,h'⟩) <;> (have h1:=f.1;have h2:=f.2;omega),by have h1:=f.1;have h2:=f.2;omega⟩)) he (fun b o f=>⟨fun h=>by have h1:=f.1;have h2:=f.2;omega,by have h1:=f.1;have h2:=f.2;omega⟩)
      ·exact Owned.ownsBut _ (Owned.ownsBut _ (Qbo.own HL.out (by decide)) (X:=fun b=>b=w1.heap.size) T8.out (fun b o f=>by replace f:((From (c 2) (c 3) b)\/((wm.heap.size<=b/\b<w3.heap.size)\/(w4.heap.size<=b/\b<wx.heap.size))\/(wx.heap.size<b/\b<w8.heap.size)):=f;unfold From at f;exact ⟨by show ¬ b=w1.heap.size;omega,by omega⟩)) he (fun b o f=>by replace f:((From (c 2) (c 3) b)\/((wm.heap.size<=b/\b<w3.heap.size)\/(w4.heap.size<=b/\b<wx.heap.size))\/(wx.heap.size<b/\b<w8.heap.size)):=f;unfold From at f;exact ⟨fun h=>by omega,by omega⟩)
      ·exact Owned.ownsBut _ (Owned.ownsBut _ O6.out h1e (fun b o f=>⟨by rintro (h | ⟨h,h'⟩) <;> (have h1:=f.1;have h2:=f.2;omega),by have h1:=f.1;have h2:=f.2;omega⟩)) he (fun b o f=>⟨fun h=>by have h1:=f.1;have h2:=f.2;omega,by have h1:=f.1;have h2:=f.2;omega⟩)
      ·exact ⟨none,0,0,rfl,Nat.le_refl _,by omega,rfl,.inl rfl⟩
      ·exact Owned.ownsBut _ (Owned.ownsBut _ O8.out h1e (fun b o f=>⟨by rintro (h | ⟨h,h'⟩) <;> (have h1:=f.1;have h2:=f.2;omega),by have h1:=f.1;have h2:=f.2;omega⟩)) he (fun b o f=>⟨fun h=>by have h1:=f.1;have h2:=f.2;omega,by have h1:=f.1;have h2:=f.2;omega⟩)
      ·exact Owned.ownsBut _ (Owned.ownsBut _ O9.out h1e (fun b o f=>⟨by rintro (h | ⟨h,h'⟩) <;> (have h1:=f.1;have h2:=f.2;omega),by have h1:=f.1;have h2:=f.2;omega⟩)) he (fun b o f=>⟨fun h=>by have h1:=f.1;have h2:=f.2;omega,by have h1:=f.1;have h2:=f.2;omega⟩)
      ·exact Owned.ownsBut _ (Owned.ownsBut _ O10.out h1e (fun b o f=>⟨by rintro (h | ⟨h,h'⟩) <;> (have h1:=f.1;have h2:=f.2;omega),by have h1:=f.1;have h2:=f.2;omega⟩)) he (fun b o f=>⟨fun h=>by have h1:=f.1;have h2:=f.2;omega,by have h1:=f.1;have h2:=f.2;omega⟩)
      ·exact Owned.ownsBut _ (Owned.ownsBut _ O11.out h1e (fun b o f=>⟨by rintro (h | ⟨h,h'⟩) <;> (have h1:=f.1;have h2:=f.2;omega),by have h1:=f.1;have h2:=f.2;omega⟩)) he (fun b o f=>⟨fun h=>by have h1:=f.1;have h2:=f.2;omega,by have h1:=f.1;have h2:=f.2;omega⟩)
      ·intro i j b hi hj f g
       have hJ:(J 0 b ↔ (c 0<=b/\b<c 1))/\(J 1 b ↔ (c 1<=b/\b<c 2))/\(J 2 b ↔ (((c 2<=b/\b<c 3)\/((wm.heap.size<=b/\b<w3.heap.size)\/(w4.heap.size<=b/\b<wx.heap.size))\/(wx.heap.size<b/\b<w8.heap.size))))/\(J 3 b ↔ (c 3<=b/\b<c 4))/\(J 4 b ↔ (False))/\(J 5 b ↔ (c 5<=b/\b<c 6))/\(J 6 b ↔ (c 6<=b/\b<c 7))/\(J 7 b ↔ (c 7<=b/\b<c 8))/\(J 8 b ↔ (c 8<=b/\b<c 9)):=⟨Iff.rfl,Iff.rfl,Iff.rfl,Iff.rfl,Iff.rfl,Iff.rfl,Iff.rfl,Iff.rfl,Iff.rfl⟩
       obtain ⟨r0,r1,r2,r3,r4,r5,r6,r7,r8⟩:=hJ
       rcases (show i=0\/i=1\/i=2\/i=3\/i=4\/i=5\/i=6\/i=7\/i=8 from by omega) with rfl | rfl | rfl | rfl | rfl | rfl | rfl | rfl | rfl <;> rcases (show j=0\/j=1\/j=2\/j=3\/j=4\/j=5\/j=6\/j=7\/j=8 from by omega) with rfl | rfl | rfl | rfl | rfl | rfl | rfl | rfl | rfl <;> first
        | exact absurd hi (by decide)
        | (simp only [r0,r1,r2,r3,r4,r5,r6,r7,r8] at f g <;> omega)
      ·intro i b hi f
       have hJ:(J 0 b ↔ (c 0<=b/\b<c 1))/\(J 1 b ↔ (c 1<=b/\b<c 2))/\(J 2 b ↔ (((c 2<=b/\b<c 3)\/((wm.heap.size<=b/\b<w3.heap.size)\/(w4.heap.size<=b/\b<wx.heap.size))\/(wx.heap.size<b/\b<w8.heap.size))))/\(J 3 b ↔ (c 3<=b/\b<c 4))/\(J 4 b ↔ (False))/\(J 5 b ↔ (c 5<=b/\b<c 6))/\(J 6 b ↔ (c 6<=b/\b<c 7))/\(J 7 b ↔ (c 7<=b/\b<c 8))/\(J 8 b ↔ (c 8<=b/\b<c 9)):=⟨Iff.rfl,Iff.rfl,Iff.rfl,Iff.rfl,Iff.rfl,Iff.rfl,Iff.rfl,Iff.rfl,Iff.rfl⟩
       obtain ⟨r0,r1,r2,r3,r4,r5,r6,r7,r8⟩:=hJ
       rcases (show i=0\/i=1\/i=2\/i=3\/i=4\/i=5\/i=6\/i=7\/i=8 from by omega) with rfl | rfl | rfl | rfl | rfl | rfl | rfl | rfl | rfl <;> (simp only [r0,r1,r2,r3,r4,r5,r6,r7,r8] at f <;> omega)
     have hsW:=HW.out
     have y0:=Qa (KY.out) 0 _ rfl
     have y1:=Qa (KY.out) 1 _ rfl
     have y2:=Qa (KY.out) 2 _ rfl
     have y3:=Qa (KY.out) 3 _ rfl
     have y4:=Qa (KY.out) 4 _ rfl
     have y5:=Qa (KY.out) 5 _ rfl
     have y6:=Qa (KY.out) 6 _ rfl
     have y7:=Qa (KY.out) 7 _ rfl
     have y8:=Qa (KY.out) 8 _ rfl
     have y9:=Qa (KY.out) 9 _ rfl
     have y10:=Qa (KY.out) 10 _ rfl
     have y11:=Qa (KY.out) 11 _ rfl
     have y12:=Qa (KY.out) 12 _ rfl
     have y13:=Qa (KY.out) 13 _ rfl
     have hzz:=KZ.out
     have cz0:=Qa hzz 0 _ rfl
     have f0:W13.frozen? ⟨w.heap.size+1,0,none⟩=false:=frozen_of_row _ _ _ _ _ hzz
     have cz1:=Qa hzz 1 _ rfl
     have f1:W13.frozen? ⟨w.heap.size+1,1,none⟩=false:=frozen_of_row _ _ _ _ _ hzz
     have cz2:=Qa hzz 2 _ rfl
     have f2:W13.frozen? ⟨w.heap.size+1,2,none⟩=false:=frozen_of_row _ _ _ _ _ hzz
     have cz3:=Qa hzz 3 _ rfl
     have f3:W13.frozen? ⟨w.heap.size+1,3,none⟩=false:=frozen_of_row _ _ _ _ _ hzz
     have cz4:=Qa hzz 4 _ rfl
     have f4:W13.frozen? ⟨w.heap.size+1,4,none⟩=false:=frozen_of_row _ _ _ _ _ hzz
     have cz5:=Qa hzz 5 _ rfl
     have f5:W13.frozen? ⟨w.heap.size+1,5,none⟩=false:=frozen_of_row _ _ _ _ _ hzz
     have cz6:=Qa hzz 6 _ rfl
     have f6:W13.frozen? ⟨w.heap.size+1,6,none⟩=false:=frozen_of_row _ _ _ _ _ hzz
     have cz7:=Qa hzz 7 _ rfl
     have f7:W13.frozen? ⟨w.heap.size+1,7,none⟩=false:=frozen_of_row _ _ _ _ _ hzz
     have cz8:=Qa hzz 8 _ rfl
     have f8:W13.frozen? ⟨w.heap.size+1,8,none⟩=false:=frozen_of_row _ _ _ _ _ hzz
     have cz9:=Qa hzz 9 _ rfl
     have f9:W13.frozen? ⟨w.heap.size+1,9,none⟩=false:=frozen_of_row _ _ _ _ _ hzz
     have cz10:=Qa hzz 10 _ rfl
     have f10:W13.frozen? ⟨w.heap.size+1,10,none⟩=false:=frozen_of_row _ _ _ _ _ hzz
     have cz11:=Qa hzz 11 _ rfl
     have f11:W13.frozen? ⟨w.heap.size+1,11,none⟩=false:=frozen_of_row _ _ _ _ _ hzz
     have cz12:=Qa hzz 12 _ rfl
     have f12:W13.frozen? ⟨w.heap.size+1,12,none⟩=false:=frozen_of_row _ _ _ _ _ hzz
     have cz13:=Qa hzz 13 _ rfl
     have f13:W13.frozen? ⟨w.heap.size+1,13,none⟩=false:=frozen_of_row _ _ _ _ _ hzz
     obtain ⟨e1,e2,e3,e4⟩:=Zn hzz (.int .i64 pc) (.slice ua1 k1 d1) (.slice ua2 k2 d2) (.bool true) (.bool redo) (.slice a5' n5' c5') (.slice ua6 k6 d6) (.slice none 0 0) (.slice ua8 k8 d8) (.slice ua9 k9 d9) (.slice ua10 k10 d10) (.slice ua11 k11 d11) (.int .i64 SU) (.bool V2)
     have hE:=ButX.ended (X:=fun b=>b=w.heap.size+1) e2 e3 rfl
     have E1:=Lib.hid e1
     have E4:=Lib.hid (e4 w.heap.size w (by omega) BW.out)
     have HE:=Lib.hid hE
     clear e1 e2 e3 e4 hE hzz hsW
     go_wp2_with fail
     refine bodyPost_ret (results_cell_row rfl _ _ (w.heap.size+1) 32 #[.int .i64 pc,.slice ua1 k1 d1,.slice ua2 k2 d2,.bool true,.bool redo,.slice a5' n5' c5',.slice ua6 k6 d6,.slice none 0 0,.slice ua8 k8 d8,.slice ua9 k9 d9,.slice ua10 k10 d10,.slice ua11 k11 d11,.int .i64 SU,.bool V2] (0,0) _ rfl E1.out Tryz.underlying32 rfl (by kernel_rfl)) rfl ?_
     exact FINAL.out _ HE.out E4.out
end Go.Proofs.YtcooobnaocbdjaaGreatDoor
