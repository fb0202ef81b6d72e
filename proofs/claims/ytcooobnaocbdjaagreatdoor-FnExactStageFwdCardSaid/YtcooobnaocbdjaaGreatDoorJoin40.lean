import Derived.Test.YtcooobnaocbdjaaGreatDoorJoin39
set_option maxRecDepth 100000
set_option maxHeartbeats 6400000
set_option linter.unusedSimpArgs false
set_option linter.unusedVariables false
namespace Go.Proofs.YtcooobnaocbdjaaGreatDoor
open Go.RowKit Go.Sort
theorem Qgi (w:World) (es:List Value) (s:Qq) (h:Qd.reads (Qf w.heap.size) w es s) (hb:Qd.bulk s<=1048576) (m:Int) (ax:Option Addr) (nx cx:Nat) (X:List Int) (hx:IntsIn w.heap.size w ax nx X) (hnx:nx<=1048576)
  (at':Option Addr) (nt ct:Nat) (Y:List Int) (ht:IntsIn w.heap.size w at' nt Y) (hnt:nt<=1048576) (hyes:Za s m X Y=true) (hlast:Qbt s=false) :
  Calls Tryz.prog 21 #[.agg es.toArray,.int .i64 m,.slice ax nx cx,.slice at' nt ct] w fun e w' => ∃ es',e = .returned (.agg (es':List Value).toArray)/\Qd.reads (From w.heap.size w'.heap.size) w' es' (fwdN s m X Y)/\Below w.heap.size w w':=by
 have hsm:=Z8 hb
 obtain ⟨a1,n1,c1,a2,n2,c2,a5,n5,c5,a6,n6,c6,a7,n7,c7,a8,n8,c8,a9,n9,c9,a10,n10,c10,a11,n11,c11,rfl,⟨p1,q1,l1⟩,⟨p2,q2,l2⟩,⟨p5,q5,l5⟩,⟨p6,q6,l6⟩,⟨p7,q7,l7⟩,⟨p8,q8,l8⟩,⟨p9,q9,l9⟩,⟨p10,q10,l10⟩,⟨p11,q11,l11⟩⟩:=Qn.1 h
 obtain ⟨pc,plan,ops,last,redo,stash,full,xs,ys,gs,ds,rows,loss,sat⟩:=s
 obtain rfl:last=false:=hlast
 have HYES:=Lib.hid hyes
 clear hyes
 replace l2:Qb shOp (Qf w.heap.size) w a2 n2 ops:=l2
 replace l5:Qb Qc (Qf w.heap.size) w a5 n5 stash:=l5
 have hb5:(Shape.list Qc).bulk stash<=1048576:=by rw [Q2] at hb;dsimp only at hb;omega
 have hb2:(Shape.list shOp).bulk ops<=1048576:=hsm.2.1
 have hlen:stash.length<=1048576:=by rw [Qh Qc l5] at hb5;have:=l5.1;omega
 have hbel:Below w.heap.size w ((w.alloc (.cells #[.int .i64 pc,.slice a1 n1 c1,.slice a2 n2 c2,.bool false,.bool redo,.slice a5 n5 c5,.slice a6 n6 c6,.slice a7 n7 c7,.slice a8 n8 c8,.slice a9 n9 c9,.slice a10 n10 c10,.slice a11 n11 c11,.int .i64 loss,.bool sat] 32 (0,0))).alloc (.cells Zj 32 (0,0))):=((Below.refl _ _).alloc (Nat.le_refl _) _).alloc (by simp) _
 have hk0:((w.alloc (.cells #[.int .i64 pc,.slice a1 n1 c1,.slice a2 n2 c2,.bool false,.bool redo,.slice a5 n5 c5,.slice a6 n6 c6,.slice a7 n7 c7,.slice a8 n8 c8,.slice a9 n9 c9,.slice a10 n10 c10,.slice a11 n11 c11,.int .i64 loss,.bool sat] 32 (0,0))).alloc (.cells Zj 32 (0,0))).heap[w.heap.size]? = some (.cells #[.int .i64 pc,.slice a1 n1 c1,.slice a2 n2 c2,.bool false,.bool redo,.slice a5 n5 c5,.slice a6 n6 c6,.slice a7 n7 c7,.slice a8 n8 c8,.slice a9 n9 c9,.slice a10 n10 c10,.slice a11 n11 c11,.int .i64 loss,.bool sat] 32 (0,0)):=by
  rw [Below.heap_alloc _ _ _ (by simp)]
  exact heap_alloc_new w _
 have hk1:((w.alloc (.cells #[.int .i64 pc,.slice a1 n1 c1,.slice a2 n2 c2,.bool false,.bool redo,.slice a5 n5 c5,.slice a6 n6 c6,.slice a7 n7 c7,.slice a8 n8 c8,.slice a9 n9 c9,.slice a10 n10 c10,.slice a11 n11 c11,.int .i64 loss,.bool sat] 32 (0,0))).alloc (.cells Zj 32 (0,0))).heap[w.heap.size+1]? = some (.cells Zj 32 (0,0)):=by
  have:=heap_alloc_new (w.alloc (.cells #[.int .i64 pc,.slice a1 n1 c1,.slice a2 n2 c2,.bool false,.bool redo,.slice a5 n5 c5,.slice a6 n6 c6,.slice a7 n7 c7,.slice a8 n8 c8,.slice a9 n9 c9,.slice a10 n10 c10,.slice a11 n11 c11,.int .i64 loss,.bool sat] 32 (0,0))) (.cells Zj 32 (0,0))
  simpa using this
 have hs0:((w.alloc (.cells #[.int .i64 pc,.slice a1 n1 c1,.slice a2 n2 c2,.bool false,.bool redo,.slice a5 n5 c5,.slice a6 n6 c6,.slice a7 n7 c7,.slice a8 n8 c8,.slice a9 n9 c9,.slice a10 n10 c10,.slice a11 n11 c11,.int .i64 loss,.bool sat] 32 (0,0))).alloc (.cells Zj 32 (0,0))).heap.size=w.heap.size+2:=by simp
 have HRD:=Lib.hid fun (wx:World) (hx:Below w.heap.size w wx)=>Shape.le _ (Shape.below _ h hx (Nat.le_refl _)) hx.size
 have L2:=Lib.hid l2
 have L5:=Lib.hid l5
 have HX:=Lib.hid hx
 have HT:=Lib.hid ht
 have B5:=Lib.hid hb5
 have B2:=Lib.hid hb2
 have HBK:=Lib.hid hb
 have HSM:=Lib.hid hsm
 have K0:=Lib.hid hk0
 have K1:=Lib.hid hk1
 have HA:=Lib.hid hbel
 have HS:=Lib.hid hs0
 clear h hx ht hb5 hb2 hb hsm hk0 hk1 hbel hs0 l1 l2 l5 l6 l7 l8 l9 l10 l11
 go_enter Tryz.func21,Tryz.ntmps21
 go_upto_region 1 with fail
 generalize ((w.alloc (.cells #[.int .i64 pc,.slice a1 n1 c1,.slice a2 n2 c2,.bool false,.bool redo,.slice a5 n5 c5,.slice a6 n6 c6,.slice a7 n7 c7,.slice a8 n8 c8,.slice a9 n9 c9,.slice a10 n10 c10,.slice a11 n11 c11,.int .i64 loss,.bool sat] 32 (0,0))).alloc (.cells Zj 32 (0,0)))=W0 at K0 K1 HA HS |-
 have z0:=Qa K0.out 0 _ rfl
 have z1:=Qa K0.out 1 _ rfl
 have z2:=Qa K0.out 2 _ rfl
 have z3:=Qa K0.out 3 _ rfl
 have z4:=Qa K0.out 4 _ rfl
 have z5:=Qa K0.out 5 _ rfl
 have z6:=Qa K0.out 6 _ rfl
 have z7:=Qa K0.out 7 _ rfl
 have z8:=Qa K0.out 8 _ rfl
 have z9:=Qa K0.out 9 _ rfl
 have z10:=Qa K0.out 10 _ rfl
 have z11:=Qa K0.out 11 _ rfl
 have z12:=Qa K0.out 12 _ rfl
 have z13:=Qa K0.out 13 _ rfl
 have HC:=Lib.hid (Qec W0 _ (pc,plan,ops,false,redo,stash,full,xs,ys,gs,ds,rows,loss,sat) (HRD.out W0 HA.out) HSM.out hlen)
 go_wp2_with fail
 refine HC.out.mono ?_
 rintro e w1 ⟨v1,v2,v5,v6,v7,v8,v9,v10,v11,m1,m2,rfl,hb1,hm1,hm2,hm3,r1,r2,r5,r6,r7,r8,r9,r10,r11⟩
 obtain ⟨ua1,k1,d1,rfl⟩:=r1.form
 obtain ⟨ua2,k2,d2,rfl⟩:=r2.form
 obtain ⟨ua5,d5,e5,-,-⟩:=r5.form
 replace e5:v5 = .slice ua5 stash.length d5:=e5
 subst e5
 obtain ⟨ua6,k6,d6,rfl⟩:=r6.form
 obtain ⟨ua7,k7,d7,rfl⟩:=r7.form
 obtain ⟨ua8,k8,d8,rfl⟩:=r8.form
 obtain ⟨ua9,k9,d9,rfl⟩:=r9.form
 obtain ⟨ua10,k10,d10,rfl⟩:=r10.form
 obtain ⟨ua11,k11,d11,rfl⟩:=r11.form
 have hs:=HS.out
 have ha:=(Below.refl w1.heap.size w1).alloc (Nat.le_refl _) (.cells #[.int .i64 pc,.slice ua1 k1 d1,.slice ua2 k2 d2,.bool false,.bool redo,.slice ua5 stash.length d5,.slice ua6 k6 d6,.slice ua7 k7 d7,.slice ua8 k8 d8,.slice ua9 k9 d9,.slice ua10 k10 d10,.slice ua11 k11 d11,.int .i64 loss,.bool sat] 32 (0,0))
 have hs1:=hb1.size
 have hq0:=(hb1.block w.heap.size (by omega)).trans K0.out
 have hq1:=(hb1.block (w.heap.size+1) (by omega)).trans K1.out
 have hnine:NineL W0.heap.size w1.heap.size w1 (.slice ua1 k1 d1) (.slice ua2 k2 d2) (.slice ua5 stash.length d5) (.slice ua6 k6 d6) (.slice ua7 k7 d7) (.slice ua8 k8 d8) (.slice ua9 k9 d9) (.slice ua10 k10 d10) (.slice ua11 k11 d11) (pc,plan,ops,false,redo,stash,full,xs,ys,gs,ds,rows,loss,sat):=
  ⟨r1.wide (by omega) (by omega) (by omega),r2.wide (by omega) (by omega) (by omega),(LL.ofL r5 (by decide)).wide (by omega) (by omega) (by omega),r6.wide (by omega) (by omega) (by omega),r7.wide (by omega) (by omega) (by omega),r8.wide (by omega) (by omega) (by omega),r9.wide (by omega) (by omega) (by omega),r10.wide (by omega) (by omega) (by omega),r11.wide (by omega) (by omega) (by omega)⟩
 have KY:=Lib.hid (heap_alloc_new w1 (.cells #[.int .i64 pc,.slice ua1 k1 d1,.slice ua2 k2 d2,.bool false,.bool redo,.slice ua5 stash.length d5,.slice ua6 k6 d6,.slice ua7 k7 d7,.slice ua8 k8 d8,.slice ua9 k9 d9,.slice ua10 k10 d10,.slice ua11 k11 d11,.int .i64 loss,.bool sat] 32 (0,0)))
 have Q0:=Lib.hid ((ha.block w.heap.size (by omega)).trans hq0)
 have Q1:=Lib.hid ((ha.block (w.heap.size+1) (by omega)).trans hq1)
 have B2':=Lib.hid (HA.out.trans ((hb1.trans (ha.mono hs1)).mono HA.out.size))
 have SZ:=Lib.hid (show (w1.alloc (.cells #[.int .i64 pc,.slice ua1 k1 d1,.slice ua2 k2 d2,.bool false,.bool redo,.slice ua5 stash.length d5,.slice ua6 k6 d6,.slice ua7 k7 d7,.slice ua8 k8 d8,.slice ua9 k9 d9,.slice ua10 k10 d10,.slice ua11 k11 d11,.int .i64 loss,.bool sat] 32 (0,0))).heap.size=w1.heap.size+1 by simp)
 have NI:=Lib.hid hnine
 have AL:=Lib.hid ha
 have R1:=Lib.hid r1
 have R2:=Lib.hid r2
 have R5:=Lib.hid r5
 have R6:=Lib.hid r6
 have R7:=Lib.hid r7
 have R8:=Lib.hid r8
 have R9:=Lib.hid r9
 have R10:=Lib.hid r10
 have R11:=Lib.hid r11
 have HMM:=Lib.hid (And.intro hm1 (And.intro hm2 hm3))
 clear ha hq0 hq1 hnine HC hb1 r1 r2 r6 r7 r8 r9 r10 r11 r5 hs1 z0 z1 z2 z3 z4 z5 z6 z7 z8 z9 z10 z11 z12 z13
 go_upto_region 2 with fail
 generalize w1.alloc (.cells #[.int .i64 pc,.slice ua1 k1 d1,.slice ua2 k2 d2,.bool false,.bool redo,.slice ua5 stash.length d5,.slice ua6 k6 d6,.slice ua7 k7 d7,.slice ua8 k8 d8,.slice ua9 k9 d9,.slice ua10 k10 d10,.slice ua11 k11 d11,.int .i64 loss,.bool sat] 32 (0,0))=W2 at KY Q0 Q1 B2' SZ AL |-
 obtain ⟨p,hp⟩ : ∃ p,Q4 (pc,plan,ops,false,redo,stash,full,xs,ys,gs,ds,rows,loss,sat)=p:=⟨_,rfl⟩
 have HP:=Lib.hid hp
 have HOK:=Lib.hid (Qb6 W2 _ (pc,plan,ops,false,redo,stash,full,xs,ys,gs,ds,rows,loss,sat) (HRD.out W2 B2'.out) HBK.out)
 rw [HP.out] at HOK
 clear hp
 have z0:=Qa Q0.out 0 _ rfl
 have z1:=Qa Q0.out 1 _ rfl
 have z2:=Qa Q0.out 2 _ rfl
 have z3:=Qa Q0.out 3 _ rfl
 have z4:=Qa Q0.out 4 _ rfl
 have z5:=Qa Q0.out 5 _ rfl
 have z6:=Qa Q0.out 6 _ rfl
 have z7:=Qa Q0.out 7 _ rfl
 have z8:=Qa Q0.out 8 _ rfl
 have z9:=Qa Q0.out 9 _ rfl
 have z10:=Qa Q0.out 10 _ rfl
 have z11:=Qa Q0.out 11 _ rfl
 have z12:=Qa Q0.out 12 _ rfl
 have z13:=Qa Q0.out 13 _ rfl
 go_wp2_with fail
 refine HOK.out.mono ?_
 rintro e wq ⟨rfl,hbq⟩
 have HQ:=Lib.hid hbq
 have hs1:=SZ.out
 have hs2:=hbq.size
 have hw2:w.heap.size+2<=w1.heap.size:=by omega
 have KYq:=Lib.hid ((hbq.block w1.heap.size (by omega)).trans KY.out)
 have Q0q:=Lib.hid ((hbq.block w.heap.size (by omega)).trans Q0.out)
 have Q1q:=Lib.hid ((hbq.block (w.heap.size+1) (by omega)).trans Q1.out)
 have BQ:=Lib.hid (B2'.out.trans (hbq.mono B2'.out.size))
 have HW:=Lib.hid hw2
 clear hbq hs1 hs2 hw2 HOK hs z0 z1 z2 z3 z4 z5 z6 z7 z8 z9 z10 z11 z12 z13
 cases p
 ·skip
  exact absurd (show Za (pc,plan,ops,false,redo,stash,full,xs,ys,gs,ds,rows,loss,sat) m X Y=false from by unfold Za;rw [HP.out];rfl) (by rw [HYES.out];simp)
 ·obtain ⟨-,hlo,hhi⟩:=Z4 (Qdg HP.out)
  replace hlo:1<=ops.length:=hlo
  replace hhi:ops.length<=8:=hhi
  rw [L2.out.1] at hlo hhi
  obtain ⟨N,hN⟩ : ∃ N:Nat,N=n2-1:=⟨_,rfl⟩
  have hw1:wrap64 ((n2:Int)-1)=(N:Int):=by rw [IntWalk.wrap64_in _ (by omega)];omega
  have hw2:(n2:Int)-1=(N:Int):=by omega
  have hNn:N<n2:=by omega
  have h0n:0<n2:=by omega
  obtain ⟨b,o,x0,ax0,nx0,cx0,hx0,rfl,hbB,-,hi1,-,-,-,-,-⟩:=Qds L2.out 0 h0n
  obtain ⟨b',o',xl,axl,nxl,cxl,hxl,eb,-,-,-,hl2,-,-,-,-⟩:=Qds L2.out N hNn
  cases eb
  obtain ⟨I,hI⟩ : ∃ I,x0.2.1=I:=⟨_,rfl⟩
  obtain ⟨O,hO⟩ : ∃ O,xl.2.2.1=O:=⟨_,rfl⟩
  have hI0:(opAt ops 0).2.1=I:=by rw [Zf hx0,hI]
  have hO0:(opAt ops (ops.length-1)).2.2.1=O:=by rw [L2.out.1,<- hN,Zf hxl,hO]
  rw [hI] at hi1
  rw [hO] at hl2
  rw [Nat.zero_mul,Nat.add_zero] at hi1
  have d1:=(BQ.out.cell (p:=⟨b,o+1,none⟩) hbB).trans hi1
  have d2:=(BQ.out.cell (p:=⟨b,o+N*4+2,none⟩) hbB).trans hl2
  have HI0:=Lib.hid hI0
  have HO0:=Lib.hid hO0
  have HN:=Lib.hid hN
  clear hN hx0 hxl hI hO hI0 hO0 hi1 hl2
  have hXl:((X.length:Int))=nx:=by rw [HX.out.1]
  have HXL:=Lib.hid hXl
  have hYl:((Y.length:Int))=nt:=by rw [HT.out.1]
  have HYL:=Lib.hid hYl
  clear hXl hYl
  obtain ⟨q,hq⟩ : ∃ q,Qm X=q:=⟨_,rfl⟩
  have HV:=Lib.hid (Qu wq ax nx cx X ((HX.out.below BQ.out (Nat.le_refl _)).le BQ.out.size))
  rw [hq] at HV
  have HVX:=Lib.hid hq
  clear hq
  have z2:=Qa Q0q.out 2 _ rfl
  have z3:=Qa Q0q.out 3 _ rfl
  have z5:=Qa Q0q.out 5 _ rfl
  cases q
  ·skip
   go_wp2_with fail
   refine HV.out.mono ?_
   rintro e w' ⟨rfl,rfl⟩
   exact absurd (show Za (pc,plan,ops,false,redo,stash,full,xs,ys,gs,ds,rows,loss,sat) m X Y=false from by unfold Za;rw [HP.out,HVX.out];simp) (by rw [HYES.out];simp)
  ·by_cases hC:(nx:Int)=I
   ·have g2:((nx:Int) != I)=false:=by simp [hC]
    have g3:((nx:Int) == I)=true:=beq_iff_eq.2 hC
    have HCC:=Lib.hid hC
    clear hC
    obtain ⟨R,hR⟩ : ∃ R,Qar stash m=R:=⟨_,rfl⟩
    have HF:=Lib.hid (Qa7 wq a5 n5 c5 stash m ((L5.out.below BQ.out (Nat.le_refl _)).le BQ.out.size) (by rw [<- L5.out.1];exact hlen))
    rw [hR] at HF
    have HR:=Lib.hid hR
    clear hR
    by_cases hD:R<0
    ·have g4:decide (R>=0)=false:=decide_eq_false (by omega)
     have g5:decide (0<=R)=false:=decide_eq_false (by omega)
     have HD:=Lib.hid hD
     clear hD
     have hv1:=(Q8 HVX.out).1
     have hv6:=(Q8 HVX.out).2.1
     have hxl:=HX.out.1
     have HIN:=Lib.hid (Qb9 wq _ n2 c2 ops ((L2.out.below BQ.out (Nat.le_refl _)).le BQ.out.size) B2.out ax nx cx X ((HX.out.below BQ.out (Nat.le_refl _)).le BQ.out.size) (by omega) (by omega))
     obtain ⟨SB,hSB⟩ : ∃ q,inKB ops X n2=q:=⟨_,rfl⟩
     rw [hSB] at HIN
     have HSB:=Lib.hid hSB
     clear hSB hv1 hv6 hxl
     go_wp2_with fail
     refine HV.out.mono ?_
     rintro e w' ⟨rfl,rfl⟩
     go_wp2_with fail
     refine HF.out.mono ?_
     rintro e w' ⟨rfl,rfl⟩
     go_wp2_with fail
     refine HIN.out.mono ?_
     rintro e w3 ⟨vr,rfl,hli,hb3⟩
     have hs1:=SZ.out
     have hs2:=HQ.out.size
     have hsW:=HW.out
     have hsH:=HS.out
     obtain ⟨hm1,hm2,hm3⟩:=HMM.out
     have hs3:=hb3.size
     have K3:=Lib.hid ((hb3.block w1.heap.size (by omega)).trans KYq.out)
     have P3:=Lib.hid ((hb3.block w.heap.size (by omega)).trans Q0q.out)
     have Z3:=Lib.hid ((hb3.block (w.heap.size+1) (by omega)).trans Q1q.out)
     have B3:=Lib.hid (BQ.out.trans (hb3.mono BQ.out.size))
     have T13:=Lib.hid (show ButX (fun b=>b=w1.heap.size) w1 w3 from (ButX.called AL.out).trans ((ButX.called HQ.out).trans (ButX.called hb3)))
     obtain ⟨ar,cr,er,hcr,hcrb,hor⟩:=hli.list (by decide)
     have hll:(Qai (inK ops X) (n2+1)).length=n2+1:=Zy _ _
     rw [hll] at er hor hcr
     subst er
     have hla:Qb Qi (From wq.heap.size w3.heap.size) w3 ar (n2+1) (Qai (inK ops X) (n2+1)):=hor.listAt (fun b o f=>f) (by decide)
     obtain ⟨br,orr,xo,ao,no,co,hxo,rfl,hbr,hro,hno1,hno2,hlo⟩:=Qch hla n2 (by omega)
     have hxe:inK ops X n2=xo:=by rw [Qan _ _ n2 (by omega)] at hxo;exact Option.some.inj hxo
     have hx6:no<=6:=by rw [<- hlo.1,<- hxe];exact Qor (Q8 HVX.out).2.1 n2
     obtain ⟨N1,hN1⟩ : ∃ N,n2+1=N:=⟨_,rfl⟩
     rw [hN1] at hor hcr |-
     have hw5:wrap64 ((N1:Int)-1)=(n2:Int):=by rw [IntWalk.wrap64_in _ (by omega)];omega
     have hw6:(N1:Int)-1=(n2:Int):=by omega
     have hNl:n2<N1:=by omega
     have HOR:=Lib.hid hor
     have HLO:=Lib.hid hlo
     have HXE:=Lib.hid hxe
     have HCR:=Lib.hid hcr
     have HCRB:=Lib.hid hcrb
     have HBR:=Lib.hid hbr
     have HN1:=Lib.hid hN1
     have S3:=Lib.hid hs3
     clear hli hla hxo hor hlo hxe hbr hll hb3 hcr hN1
     clear z2 z3 z5 d1 d2 hw1 hw2 hNn h0n g2 g3 g4 g5
     go_upto_region 6 with fail
     clear hro hw5 hw6 hNl
     have PB:=Lib.hid fun (wx:World) (hx:ButX (fun b=>b=w1.heap.size\/(m1<=b/\b<m2)) w3 wx)=>(show wx.heap[w.heap.size]? = _ from (hx.2 _ (by rintro (h | ⟨h,h'⟩) <;> omega) (by omega)).trans P3.out)
     have ZB:=Lib.hid fun (wx:World) (hx:ButX (fun b=>b=w1.heap.size\/(m1<=b/\b<m2)) w3 wx)=>(show wx.heap[w.heap.size+1]? = _ from (hx.2 _ (by rintro (h | ⟨h,h'⟩) <;> omega) (by omega)).trans Z3.out)
     have WK:=Lib.hid (show ∀ wx,ButX (fun b=>b=w1.heap.size) w3 wx->ButX (fun b=>b=w1.heap.size\/(m1<=b/\b<m2)) w3 wx from fun wx hx=>hx.weak fun b hb => .inl hb)
     have hal:=(Below.refl w3.heap.size w3).alloc (Nat.le_refl _) (.cells #[] 3 (0,0))
     have hk:=(hal.block w1.heap.size (by omega)).trans K3.out
     have hT:=(ButX.called (X:=(fun b=>b=w1.heap.size)) hal)
     have hB:=B3.out.alloc B3.out.size (.cells #[] 3 (0,0))
     have cc:=Qa hk 7 _ rfl
     have ff:(w3.alloc (.cells #[] 3 (0,0))).frozen? ⟨w1.heap.size,7,none⟩=false:=frozen_of_row _ _ _ _ _ hk
     have KY:=Lib.hid hk
     have TT:=Lib.hid hT
     have BW:=Lib.hid hB
     clear hk hT hB
     go_upto_region 7 with fail
     clear cc ff
     have hk:((w3.alloc (.cells #[] 3 (0,0))).setCell ⟨w1.heap.size,7,none⟩ (.slice (some ⟨w3.heap.size,0,none⟩) 0 0)).heap[w1.heap.size]? = some (.cells #[.int .i64 pc,.slice ua1 k1 d1,.slice ua2 k2 d2,.bool false,.bool redo,.slice ua5 stash.length d5,.slice ua6 k6 d6,.slice (some ⟨w3.heap.size,0,none⟩) 0 0,.slice ua8 k8 d8,.slice ua9 k9 d9,.slice ua10 k10 d10,.slice ua11 k11 d11,.int .i64 loss,.bool sat] 32 (0,0)):=by
      have:=heap_setCell_same (w3.alloc (.cells #[] 3 (0,0))) w1.heap.size 7 _ _ (.slice (some ⟨w3.heap.size,0,none⟩) 0 0) KY.out
      simpa only [List.setIfInBounds_toArray,List.set_cons_zero,List.set_cons_succ] using this
     have hT:=TT.out.trans (ButX.stored (X:=(fun b=>b=w1.heap.size)) (g:=w1.heap.size) (rfl) (w3.alloc (.cells #[] 3 (0,0))) 7 (.slice (some ⟨w3.heap.size,0,none⟩) 0 0))
     have hB:=BW.out.setCell (p:=⟨w1.heap.size,7,none⟩) (by show w.heap.size<=w1.heap.size;omega) (.slice (some ⟨w3.heap.size,0,none⟩) 0 0)
     clear KY TT BW
     generalize (w3.alloc (.cells #[] 3 (0,0))).setCell ⟨w1.heap.size,7,none⟩ (.slice (some ⟨w3.heap.size,0,none⟩) 0 0)=W4 at hk hT hB |-
     have cc:=Qa hk 13 _ rfl
     have ff:(W4).frozen? ⟨w1.heap.size,13,none⟩=false:=frozen_of_row _ _ _ _ _ hk
     have KY:=Lib.hid hk
     have TT:=Lib.hid hT
     have BW:=Lib.hid hB
     clear hk hT hB
     have z13:=Qa (PB.out _ (WK.out _ TT.out)) 13 _ rfl
     obtain ⟨V1,hV1⟩ : ∃ V,(sat || SB)=V:=⟨_,rfl⟩
     have HV1:=Lib.hid hV1
     clear hV1
     go_cut [11] (fun t wy=>wy=W4.setCell ⟨w1.heap.size,13,none⟩ (.bool V1))
     case first =>
      cases sat
      all_goals
       have hvv:=HV1.out
       simp only [Bool.or_true,Bool.or_false,Bool.true_or,Bool.false_or] at hvv
       subst hvv
       clear HV1
       go_wp2_with fail
       go_meet
       case rel=>rfl
     case rest =>
      subst hcut
      clear z13
      clear cc ff
      have hk:((W4).setCell ⟨w1.heap.size,13,none⟩ (.bool V1)).heap[w1.heap.size]? = some (.cells #[.int .i64 pc,.slice ua1 k1 d1,.slice ua2 k2 d2,.bool false,.bool redo,.slice ua5 stash.length d5,.slice ua6 k6 d6,.slice (some ⟨w3.heap.size,0,none⟩) 0 0,.slice ua8 k8 d8,.slice ua9 k9 d9,.slice ua10 k10 d10,.slice ua11 k11 d11,.int .i64 loss,.bool V1] 32 (0,0)):=by
       have:=heap_setCell_same (W4) w1.heap.size 13 _ _ (.bool V1) KY.out
       simpa only [List.setIfInBounds_toArray,List.set_cons_zero,List.set_cons_succ] using this
      have hT:=TT.out.trans (ButX.stored (X:=(fun b=>b=w1.heap.size)) (g:=w1.heap.size) (rfl) (W4) 13 (.bool V1))
      have hB:=BW.out.setCell (p:=⟨w1.heap.size,13,none⟩) (by show w.heap.size<=w1.heap.size;omega) (.bool V1)
      clear KY TT BW
      generalize (W4).setCell ⟨w1.heap.size,13,none⟩ (.bool V1)=W5 at hk hT hB |-
      have z3:=Qa (PB.out _ (WK.out _ hT)) 3 _ rfl
      go_upto_region 13 with fail
      clear z3
      have hs5:=hT.1
      have S5:=Lib.hid hs5
      have hal:=(Below.refl W5.heap.size W5).alloc (Nat.le_refl _) (.cells #[] 3 (0,0))
      have HEM:Hid (Row W5.heap.size (W5.alloc (.cells #[] 3 (0,0))) (.slice (some ⟨W5.heap.size,0,none⟩) 0 0) []):=Lib.hid ⟨by simp [Qp],.inr ⟨W5.heap.size,0,#[],rfl,Nat.le_refl _,heap_alloc_new W5 _,Nat.le_refl _,Nat.zero_le _,by simp,by simp [Qp]⟩⟩
      have hin5:Qb Shape.int (From wq.heap.size w3.heap.size) W5 ao no xo:=HLO.out.keep fun b hb=>hT.2 b (by have:=hb.1;show ¬ b=w1.heap.size;omega) hb.2
      have hin6:=((hin5.sub (J:=Qf W5.heap.size) fun b hb=>Nat.lt_of_lt_of_le hb.2 hs5).below hal (Nat.le_refl _)).ints (by omega)
      have HIN6:=Lib.hid hin6
      have HAL:=Lib.hid hal
      have KY:=Lib.hid hk
      have TT:=Lib.hid hT
      have BW:=Lib.hid hB
      clear hk hT hB hal hin5 hin6
      go_upto_region 14 with (at_builtin;refine Qw (by rfl) fun K hK => ?_;refine Ju rfl (Zv (ops:=#[]) (W5.alloc (.cells #[] 3 (0,0))) rfl _ _ (by rfl) W5.heap.size _ [] (by rfl) HEM.out ao no co _ xo (by rfl) HIN6.out (by simp) HAL.out.size ?_);intro a8' n8' c8' w6 hr hg;rw [List.nil_append] at hr;have hb6:Below W5.heap.size W5 w6:=HAL.out.grown hg HAL.out.size (fun q hq=>by cases hq;exact Nat.le_refl _);have hk:=(hb6.block w1.heap.size (by omega)).trans KY.out;have hT:=TT.out.trans (ButX.called (X:=(fun b=>b=w1.heap.size)) hb6);have hB:=BW.out.trans (hb6.mono BW.out.size);have hs6:=hb6.size;have cc:=Qa hk 8 _ rfl;have ff:w6.frozen? ⟨w1.heap.size,8,none⟩=false:=frozen_of_row _ _ _ _ _ hk;clear KY TT BW;have KY:=Lib.hid hk;have TT:=Lib.hid hT;have BW:=Lib.hid hB;have HR8:=Lib.hid hr;clear hk hT hB hr hg hb6;refine hK _ _ ?_;clear hK K)
      have hr8:Row W5.heap.size (w6.setCell ⟨w1.heap.size,8,none⟩ (.slice a8' n8' c8')) (.slice a8' n8' c8') xo:=Row.setBelow HR8.out (a:=⟨w1.heap.size,8,none⟩) (by show w1.heap.size<W5.heap.size;omega) _
      clear cc ff
      have hk:((w6).setCell ⟨w1.heap.size,8,none⟩ (.slice a8' n8' c8')).heap[w1.heap.size]? = some (.cells #[.int .i64 pc,.slice ua1 k1 d1,.slice ua2 k2 d2,.bool false,.bool redo,.slice ua5 stash.length d5,.slice ua6 k6 d6,.slice (some ⟨w3.heap.size,0,none⟩) 0 0,.slice a8' n8' c8',.slice ua9 k9 d9,.slice ua10 k10 d10,.slice ua11 k11 d11,.int .i64 loss,.bool V1] 32 (0,0)):=by
       have:=heap_setCell_same (w6) w1.heap.size 8 _ _ (.slice a8' n8' c8') KY.out
       simpa only [List.setIfInBounds_toArray,List.set_cons_zero,List.set_cons_succ] using this
      have hT:=TT.out.trans (ButX.stored (X:=(fun b=>b=w1.heap.size)) (g:=w1.heap.size) (rfl) (w6) 8 (.slice a8' n8' c8'))
      have hB:=BW.out.setCell (p:=⟨w1.heap.size,8,none⟩) (by show w.heap.size<=w1.heap.size;omega) (.slice a8' n8' c8')
      clear KY TT BW
      generalize (w6).setCell ⟨w1.heap.size,8,none⟩ (.slice a8' n8' c8')=W7 at hk hT hB hr8 |-
      have z4:=Qa (PB.out _ (WK.out _ hT)) 4 _ rfl
      have hs7:=hT.1
      have NL8:=Lib.hid (show LL Shape.int W5.heap.size W7.heap.size W7 (.slice a8' n8' c8') xo from LL.ofRow hr8 |>.wide (Nat.le_refl _) (Nat.le_refl _) (Nat.le_refl _))
      clear hr8
      obtain ⟨RW,hRW⟩ : ∃ r,(Zt (pc,plan,ops,false,redo,stash,full,xs,ys,gs,ds,rows,loss,sat) m X).2=r:=⟨_,rfl⟩
      have HRW:=Lib.hid hRW
      clear hRW
      have hor7:=HOR.out.but (wy:=W7) hT (fun b o f=>⟨by show ¬ b=w1.heap.size;have:=f.1;omega,f.2⟩)
      have HO7:=Lib.hid hor7
      have hc1:1<=cr:=by have h1:=HCR.out;have h2:=HN1.out;omega
      have hn1:1<=N1:=by have h2:=HN1.out;omega
      have KY:=Lib.hid hk
      have TT:=Lib.hid hT
      have BW:=Lib.hid hB
      clear hk hT hB hor7
      go_upto_if 127 with fail
      go_cut [10] (fun t wy=>wy=W7 /\ ∃ nr,t = .slice (some ⟨br,orr,none⟩) nr cr/\nr<=cr/\Qk ownRow (Zb wq.heap.size w3.heap.size) W7 (some ⟨br,orr,none⟩) nr RW)
      case first =>
       cases redo
       ·go_wp2_with fail
        go_meet
        case rel =>
         have e:RW=Qai (inK ops X) N1:=by rw [<- HRW.out];show insN ops X=_;unfold insN;rw [L2.out.1,HN1.out]
         rw [e]
         exact ⟨rfl,N1,rfl,by have h1:=HCR.out;have h2:=HN1.out;omega,HO7.out⟩
       ·go_wp2_with fail
        go_meet
        case rel =>
         have e:RW=(Qai (inK ops X) N1).take 1:=by
          rw [<- HRW.out]
          show [X]=_
          rw [<- Qd9 ops X]
          unfold insN
          rw [L2.out.1,HN1.out]
         rw [e]
         exact ⟨rfl,1,rfl,hc1,HO7.out.take 1 hn1⟩
      case rest =>
       obtain ⟨hwc,nr,rfl,hcq,hor9⟩:=hcut
       replace hwc:=hwc.symm
       subst hwc
       clear z4 hc1 hn1
       have hk:=KY.out
       have hT:=TT.out
       have hB:=BW.out
       clear KY TT BW HO7
       have how:Qe.owns (Zb wq.heap.size w3.heap.size) W7 [.int .i64 m,.slice (some ⟨br,orr,none⟩) nr cr] (m,RW):=Zx.2 ⟨_,_,_,rfl,hcq,HCRB.out,hor9⟩
       have hl5:=(R5.out.but T13.out (fun b h1 h2=>by show ¬ b=w1.heap.size;omega)).but hT (fun b h1 h2=>by show ¬ b=w1.heap.size;omega)
       have hs7':=hT.1
       have HOW:=Lib.hid how
       have HL5:=Lib.hid hl5
       have y5:=Qa hk 5 _ rfl
       obtain ⟨us5,G5,q51,q52,-⟩:=hl5.all
       have HOB:=Lib.hid (show ∀ k,(Value.slice ua5 stash.length d5).ownBlock=some k->m1<=k/\k<m2 from fun k hk=>⟨(World.ownsRow.lt q51 k hk).1,q52 k hk⟩)
       have KY:=Lib.hid hk
       have TT:=Lib.hid hT
       have BW:=Lib.hid hB
       clear hk hT hB hor9 how hl5 q51 q52 hcq
       obtain ⟨j0,hj,hy0,hy1,hy2⟩:=info_parts Jk
       go_upto_region 17 with (at_builtin;refine Qw (by rfl) fun K hK => ?_;refine Ju rfl (Zr (ops:=#[]) W7 (S:=Qe) (T:=46) (Ts:=26) (by rfl) _ _ (by rfl) j0 (.agg #[.int .i64 0,.slice none 0 0]) 32 Tryz.underlying26 hj hy0 hy1 hy2 rfl (by decide) (by decide) m1 m2 hm2 _ stash (m,RW) [.int .i64 m,.slice (some ⟨br,orr,none⟩) nr cr] (Zb wq.heap.size w3.heap.size) (by rfl) HL5.out HOW.out (fun b o f=>⟨by have:=f.1;omega,by have:=f.2;omega⟩) Qdz (by rfl) hlen ?_);intro a5' n5' c5' w8 hl hb8 hg hset;have hT8:=(TT.out.weak (X':=(fun b=>b=w1.heap.size\/(m1<=b/\b<m2))) (fun b hb => .inl hb)).trans (ButX.grown hg (fun k hk => .inl (.inr (HOB.out k hk))));have hk:=(hg.block w1.heap.size (by omega) (fun e=>by have:=HOB.out _ e.symm;omega)).trans KY.out;have cc:=Qa hk 5 _ rfl;have ff:w8.frozen? ⟨w1.heap.size,5,none⟩=false:=frozen_of_row _ _ _ _ _ hk;have hB:=BW.out.trans (hb8.mono (by omega));have hls:=hset.out w1.heap.size 5 (.slice a5' n5' c5') _ _ (by omega) (by omega) (fun b o f=>by have:=f.1;omega) KY.out;clear KY TT BW;have KY:=Lib.hid hk;have TT:=Lib.hid hT8;have BW:=Lib.hid hB;have HLS:=Lib.hid hls;have hz8:=hg;have NL8':=Lib.hid (NL8.out.but (ButX.grown (X:=(fun b=>b=w1.heap.size\/(m1<=b/\b<m2))) hg (fun k hk => .inl (.inr (HOB.out k hk)))) (fun b h1 h2=>by rintro (h | ⟨h,h'⟩) <;> omega));clear NL8 hz8;have NL8:=NL8';clear NL8';clear hk hT8 hB hl hb8 hg hset hls;refine hK _ _ ?_;clear hK K)
       clear y5
       have hls:=HLS.out
       have nl8:=NL8.out.but (ButX.stored (X:=(fun b=>b=w1.heap.size\/(m1<=b/\b<m2))) (g:=w1.heap.size) (.inl rfl) w8 5 (.slice a5' n5' c5')) (fun b h1 h2=>by rintro (h | ⟨h,h'⟩) <;> omega)
       clear cc ff
       have hk:((w8).setCell ⟨w1.heap.size,5,none⟩ (.slice a5' n5' c5')).heap[w1.heap.size]? = some (.cells #[.int .i64 pc,.slice ua1 k1 d1,.slice ua2 k2 d2,.bool false,.bool redo,.slice a5' n5' c5',.slice ua6 k6 d6,.slice (some ⟨w3.heap.size,0,none⟩) 0 0,.slice a8' n8' c8',.slice ua9 k9 d9,.slice ua10 k10 d10,.slice ua11 k11 d11,.int .i64 loss,.bool V1] 32 (0,0)):=by
        have:=heap_setCell_same (w8) w1.heap.size 5 _ _ (.slice a5' n5' c5') KY.out
        simpa only [List.setIfInBounds_toArray,List.set_cons_zero,List.set_cons_succ] using this
       have hT:=TT.out.trans (ButX.stored (X:=(fun b=>b=w1.heap.size\/(m1<=b/\b<m2))) (g:=w1.heap.size) (.inl rfl) (w8) 5 (.slice a5' n5' c5'))
       have hB:=BW.out.setCell (p:=⟨w1.heap.size,5,none⟩) (by show w.heap.size<=w1.heap.size;omega) (.slice a5' n5' c5')
       clear KY TT BW
       generalize (w8).setCell ⟨w1.heap.size,5,none⟩ (.slice a5' n5' c5')=W9 at hk hT hB hls nl8 |-
       have NL5:=Lib.hid (LL.ofL hls (by decide))
       clear hls HLS
       clear NL8
       have NL8:=Lib.hid nl8
       clear nl8
       have KY:=Lib.hid hk
       have TT:=Lib.hid hT
       have BW:=Lib.hid hB
       clear hk hT hB hal hj hy0 hy1 hy2 hs1 hs2 hsW hsH hm1 hm2 hm3 hs3 hs7' hs5 hs6 hs7
       have FINAL:Hid (∀ wf,ButX (fun b=>b=w.heap.size+1) W9 wf->Below w.heap.size w wf -> ∃ es',Ending.returned (.agg #[.int .i64 pc,.slice ua1 k1 d1,.slice ua2 k2 d2,.bool false,.bool redo,.slice a5' n5' c5',.slice ua6 k6 d6,.slice (some ⟨w3.heap.size,0,none⟩) 0 0,.slice a8' n8' c8',.slice ua9 k9 d9,.slice ua10 k10 d10,.slice ua11 k11 d11,.int .i64 loss,.bool V1]) = .returned (.agg (es':List Value).toArray)/\Qd.reads (From w.heap.size wf.heap.size) wf es' (fwdN (pc,plan,ops,false,redo,stash,full,xs,ys,gs,ds,rows,loss,sat) m X Y)/\Below w.heap.size w wf):=Lib.hid fun wf he hbw=>by
        have hs1:=SZ.out
        have hs2:=HQ.out.size
        have hsW:=HW.out
        have hsH:=HS.out
        obtain ⟨hm1,hm2,hm3⟩:=HMM.out
        have hs3:=S3.out
        have hs5:=S5.out
        obtain ⟨hn8,-⟩:=NL8.out
        have h13:=T13.out.weak (X':=(fun b=>b=w1.heap.size\/(m1<=b/\b<m2))) fun b hb => .inl hb
        have h1e:=h13.trans TT.out
        have hz1:=T13.out.1
        have hz2:=TT.out.1
        have hz3:=he.1
        have hyes:Za (pc,plan,ops,false,redo,stash,full,xs,ys,gs,ds,rows,loss,sat) m X Y=true:=by unfold Za;show (Q4 _ && Qm X && decide ((X.length:Int)=(opAt ops 0).2.1) && decide (Qar stash m<0) && !(false && _))=true;rw [HP.out,HVX.out,HXL.out,HI0.out,decide_eq_true HCC.out,HR.out,decide_eq_true HD.out];rfl
        have hdat:fwdN (pc,plan,ops,false,redo,stash,full,xs,ys,gs,ds,rows,loss,sat) m X Y=(pc,plan,ops,false,redo,stash ++ [(m,RW)],full,[],xo,gs,ds,rows,loss,V1):=by
         rw [Qfm hyes]
         show (pc,plan,ops,false,redo,stash ++ [(m,(Zt (pc,plan,ops,false,redo,stash,full,xs,ys,gs,ds,rows,loss,sat) m X).2)],full,[],inK ops X ops.length,gs,ds,rows,loss,(sat || inKB ops X ops.length))=_;rw [L2.out.1,HXE.out,HSB.out,HV1.out,HRW.out]
        refine ⟨[.int .i64 pc,.slice ua1 k1 d1,.slice ua2 k2 d2,.bool false,.bool redo,.slice a5' n5' c5',.slice ua6 k6 d6,.slice (some ⟨w3.heap.size,0,none⟩) 0 0,.slice a8' n8' c8',.slice ua9 k9 d9,.slice ua10 k10 d10,.slice ua11 k11 d11,.int .i64 loss,.bool V1],rfl,?_,hbw⟩
        rw [hdat]
        refine NineL.reads (lo:=w.heap.size) (hi:=wf.heap.size) (s:=(pc,plan,ops,false,redo,stash ++ [(m,RW)],full,[],xo,gs,ds,rows,loss,V1)) ⟨?_,?_,?_,?_,?_,?_,?_,?_,?_⟩ (Nat.le_refl _) (Nat.le_refl _)
        ·exact (((R1.out.but h1e (fun b h1 h2=>by rintro (h | ⟨h,h'⟩) <;> omega)).but he (fun b h1 h2 h=>by omega)).wide (by omega) (by omega) (by exact Nat.le_refl _))
        ·exact (((R2.out.but h1e (fun b h1 h2=>by rintro (h | ⟨h,h'⟩) <;> omega)).but he (fun b h1 h2 h=>by omega)).wide (by omega) (by omega) (by exact Nat.le_refl _))
        ·exact ((NL5.out.but he (fun b h1 h2 h=>by omega)).wide (by omega) (by omega) (by exact Nat.le_refl _))
        ·exact (((R6.out.but h1e (fun b h1 h2=>by rintro (h | ⟨h,h'⟩) <;> omega)).but he (fun b h1 h2 h=>by omega)).wide (by omega) (by omega) (by exact Nat.le_refl _))
        ·exact LL.emptyAt (Nat.le_refl _) _
        ·exact ((NL8.out.but he (fun b h1 h2 h=>by omega)).wide (by omega) (by omega) (by exact Nat.le_refl _))
        ·exact (((R9.out.but h1e (fun b h1 h2=>by rintro (h | ⟨h,h'⟩) <;> omega)).but he (fun b h1 h2 h=>by omega)).wide (by omega) (by omega) (by exact Nat.le_refl _))
        ·exact (((R10.out.but h1e (fun b h1 h2=>by rintro (h | ⟨h,h'⟩) <;> omega)).but he (fun b h1 h2 h=>by omega)).wide (by omega) (by omega) (by exact Nat.le_refl _))
        ·exact (((R11.out.but h1e (fun b h1 h2=>by rintro (h | ⟨h,h'⟩) <;> omega)).but he (fun b h1 h2 h=>by omega)).wide (by omega) (by omega) (by exact Nat.le_refl _))
       have hs1:=SZ.out
       have hs2:=HQ.out.size
       have hsW:=HW.out
       have y0:=Qa KY.out 0 _ rfl
       have y1:=Qa KY.out 1 _ rfl
       have y2:=Qa KY.out 2 _ rfl
       have y3:=Qa KY.out 3 _ rfl
       have y4:=Qa KY.out 4 _ rfl
       have y5:=Qa KY.out 5 _ rfl
       have y6:=Qa KY.out 6 _ rfl
       have y7:=Qa KY.out 7 _ rfl
       have y8:=Qa KY.out 8 _ rfl
       have y9:=Qa KY.out 9 _ rfl
       have y10:=Qa KY.out 10 _ rfl
       have y11:=Qa KY.out 11 _ rfl
       have y12:=Qa KY.out 12 _ rfl
       have y13:=Qa KY.out 13 _ rfl
       have hzz:=ZB.out _ TT.out
       have cz0:=Qa hzz 0 _ rfl
       have f0:W9.frozen? ⟨w.heap.size+1,0,none⟩=false:=frozen_of_row _ _ _ _ _ hzz
       have cz1:=Qa hzz 1 _ rfl
       have f1:W9.frozen? ⟨w.heap.size+1,1,none⟩=false:=frozen_of_row _ _ _ _ _ hzz
       have cz2:=Qa hzz 2 _ rfl
       have f2:W9.frozen? ⟨w.heap.size+1,2,none⟩=false:=frozen_of_row _ _ _ _ _ hzz
       have cz3:=Qa hzz 3 _ rfl
       have f3:W9.frozen? ⟨w.heap.size+1,3,none⟩=false:=frozen_of_row _ _ _ _ _ hzz
       have cz4:=Qa hzz 4 _ rfl
       have f4:W9.frozen? ⟨w.heap.size+1,4,none⟩=false:=frozen_of_row _ _ _ _ _ hzz
       have cz5:=Qa hzz 5 _ rfl
       have f5:W9.frozen? ⟨w.heap.size+1,5,none⟩=false:=frozen_of_row _ _ _ _ _ hzz
       have cz6:=Qa hzz 6 _ rfl
       have f6:W9.frozen? ⟨w.heap.size+1,6,none⟩=false:=frozen_of_row _ _ _ _ _ hzz
       have cz7:=Qa hzz 7 _ rfl
       have f7:W9.frozen? ⟨w.heap.size+1,7,none⟩=false:=frozen_of_row _ _ _ _ _ hzz
       have cz8:=Qa hzz 8 _ rfl
       have f8:W9.frozen? ⟨w.heap.size+1,8,none⟩=false:=frozen_of_row _ _ _ _ _ hzz
       have cz9:=Qa hzz 9 _ rfl
       have f9:W9.frozen? ⟨w.heap.size+1,9,none⟩=false:=frozen_of_row _ _ _ _ _ hzz
       have cz10:=Qa hzz 10 _ rfl
       have f10:W9.frozen? ⟨w.heap.size+1,10,none⟩=false:=frozen_of_row _ _ _ _ _ hzz
       have cz11:=Qa hzz 11 _ rfl
       have f11:W9.frozen? ⟨w.heap.size+1,11,none⟩=false:=frozen_of_row _ _ _ _ _ hzz
       have cz12:=Qa hzz 12 _ rfl
       have f12:W9.frozen? ⟨w.heap.size+1,12,none⟩=false:=frozen_of_row _ _ _ _ _ hzz
       have cz13:=Qa hzz 13 _ rfl
       have f13:W9.frozen? ⟨w.heap.size+1,13,none⟩=false:=frozen_of_row _ _ _ _ _ hzz
       obtain ⟨e1,e2,e3,e4⟩:=Zn hzz (.int .i64 pc) (.slice ua1 k1 d1) (.slice ua2 k2 d2) (.bool false) (.bool redo) (.slice a5' n5' c5') (.slice ua6 k6 d6) (.slice (some ⟨w3.heap.size,0,none⟩) 0 0) (.slice a8' n8' c8') (.slice ua9 k9 d9) (.slice ua10 k10 d10) (.slice ua11 k11 d11) (.int .i64 loss) (.bool V1)
       have hE:=ButX.ended (X:=fun b=>b=w.heap.size+1) e2 e3 rfl
       have E1:=Lib.hid e1
       have E4:=Lib.hid (e4 w.heap.size w (by omega) BW.out)
       have HE:=Lib.hid hE
       clear e1 e2 e3 e4 hE hzz hs1 hs2 hsW
       go_wp2_with fail
       refine bodyPost_ret (results_cell_row rfl _ _ (w.heap.size+1) 32 #[.int .i64 pc,.slice ua1 k1 d1,.slice ua2 k2 d2,.bool false,.bool redo,.slice a5' n5' c5',.slice ua6 k6 d6,.slice (some ⟨w3.heap.size,0,none⟩) 0 0,.slice a8' n8' c8',.slice ua9 k9 d9,.slice ua10 k10 d10,.slice ua11 k11 d11,.int .i64 loss,.bool V1] (0,0) _ rfl E1.out Tryz.underlying32 rfl (by kernel_rfl)) rfl ?_
       exact FINAL.out _ HE.out E4.out
    ·have g4:decide (R>=0)=true:=decide_eq_true (by omega)
     have g5:decide (0<=R)=true:=decide_eq_true (by omega)
     have HD:=Lib.hid hD
     clear hD
     go_wp2_with fail
     refine HV.out.mono ?_
     rintro e w' ⟨rfl,rfl⟩
     go_wp2_with fail
     refine HF.out.mono ?_
     rintro e w' ⟨rfl,rfl⟩
     exact absurd (show Za (pc,plan,ops,false,redo,stash,full,xs,ys,gs,ds,rows,loss,sat) m X Y=false from by unfold Za;show (_ && decide (Qar stash m<0) && _)=false;rw [HR.out,decide_eq_false (show ¬ R<0 by have:=HD.out;omega)];simp) (by rw [HYES.out];simp)
   ·have g2:((nx:Int) != I)=true:=by simp [hC]
    have g3:((nx:Int) == I)=false:=beq_eq_false_iff_ne.2 hC
    have HCC:=Lib.hid hC
    clear hC
    go_wp2_with fail
    refine HV.out.mono ?_
    rintro e w' ⟨rfl,rfl⟩
    exact absurd (show Za (pc,plan,ops,false,redo,stash,full,xs,ys,gs,ds,rows,loss,sat) m X Y=false from by unfold Za;show (_ && decide ((X.length:Int)=(opAt ops 0).2.1) && _ && _)=false;rw [HXL.out,HI0.out,decide_eq_false HCC.out];simp) (by rw [HYES.out];simp)
end Go.Proofs.YtcooobnaocbdjaaGreatDoor
