import Derived.Test.YtcooobnaocbdjaaGreatDoorJoin29
import Derived.Test.YtcooobnaocbdjaaGreatDoorJoin17
import Derived.Test.YtcooobnaocbdjaaGreatDoorJoin30
import Derived.Test.YtcooobnaocbdjaaGreatDoorJoin31
import Derived.Test.YtcooobnaocbdjaaGreatDoorJoin38
import Derived.Test.YtcooobnaocbdjaaGreatDoorJoin33
import Derived.Test.YtcooobnaocbdjaaGreatDoorJoin22
set_option maxRecDepth 100000
set_option maxHeartbeats 6400000
set_option linter.unusedSimpArgs false
set_option linter.unusedVariables false
namespace Go.Proofs.YtcooobnaocbdjaaGreatDoor
open Go.RowKit Go.Sort
theorem LL.keep {α:Type} {S:Shape α} {lo hi:Nat} {wx wy:World} {v:Value} {xs:List α} (h:LL S lo hi wx v xs) (hs:hi<=wy.heap.size) (hk : ∀ b,lo<=b->b<hi->wy.heap[b]? = wx.heap[b]?):LL S lo hi wy v xs:=by
 obtain ⟨h0,a,n,c,e,h1,h2,h3⟩:=h
 exact ⟨hs,a,n,c,e,h1,h2,h3.keep fun b hb=>hk b hb.1 hb.2⟩
theorem LL.form {α:Type} {S:Shape α} {lo hi:Nat} {wx:World} {v:Value} {xs:List α} (h:LL S lo hi wx v xs) : ∃ a n c,v = .slice a n c:=by
 obtain ⟨h0,a,n,c,e,-⟩:=h
 exact ⟨a,n,c,e⟩
theorem LL.slice {α:Type} {S:Shape α} {lo hi:Nat} {wx:World} {a:Option Addr} {n c:Nat} {xs:List α} (h:LL S lo hi wx (.slice a n c) xs) {lo' hi':Nat} (hl:lo'<=lo) (hh:hi<=hi'):n<=c/\c<=9223372036854775807/\Qb S (From lo' hi') wx a n xs:=by
 obtain ⟨h0,a',n',c',e,h1,h2,h3⟩:=h
 cases e
 exact ⟨h1,h2,h3.sub fun b hb=>⟨Nat.le_trans hl hb.1,Nat.lt_of_lt_of_le hb.2 hh⟩⟩
structure NineL (lo hi:Nat) (wx:World) (v1 v2 v5 v6 v7 v8 v9 v10 v11:Value) (s:Qq):Prop where
 l1:LL Z1 lo hi wx v1 (Qfg s)
 l2:LL shOp lo hi wx v2 (opsS s)
 l5:LL Qc lo hi wx v5 (Zc s)
 l6:LL Qi lo hi wx v6 (Qj7 s)
 l7:LL Shape.int lo hi wx v7 (xS s)
 l8:LL Shape.int lo hi wx v8 (yS s)
 l9:LL Shape.int lo hi wx v9 (gS s)
 l10:LL Shape.int lo hi wx v10 (dS s)
 l11:LL Qi lo hi wx v11 (sumS s).1
theorem NineL.keep {lo hi:Nat} {wx wy:World} {v1 v2 v5 v6 v7 v8 v9 v10 v11:Value} {s:Qq} (h:NineL lo hi wx v1 v2 v5 v6 v7 v8 v9 v10 v11 s) (hs:hi<=wy.heap.size) (hk : ∀ b,lo<=b->b<hi->wy.heap[b]? = wx.heap[b]?):NineL lo hi wy v1 v2 v5 v6 v7 v8 v9 v10 v11 s:=
 ⟨h.l1.keep hs hk,h.l2.keep hs hk,h.l5.keep hs hk,h.l6.keep hs hk,h.l7.keep hs hk,h.l8.keep hs hk,h.l9.keep hs hk,h.l10.keep hs hk,h.l11.keep hs hk⟩
theorem NineL.reads {lo hi:Nat} {wx:World} {v1 v2 v5 v6 v7 v8 v9 v10 v11:Value} {s:Qq} (h:NineL lo hi wx v1 v2 v5 v6 v7 v8 v9 v10 v11 s) {lo' hi':Nat} (hl:lo'<=lo) (hh:hi<=hi') :
  Qd.reads (From lo' hi') wx (Qji (pcS s) v1 v2 (Qbt s) (Qb3 s) v5 v6 v7 v8 v9 v10 v11 (sumS s).2.1 (sumS s).2.2).toList s:=by
 obtain ⟨a1,n1,c1,rfl⟩:=h.l1.form
 obtain ⟨a2,n2,c2,rfl⟩:=h.l2.form
 obtain ⟨a5,n5,c5,rfl⟩:=h.l5.form
 obtain ⟨a6,n6,c6,rfl⟩:=h.l6.form
 obtain ⟨a7,n7,c7,rfl⟩:=h.l7.form
 obtain ⟨a8,n8,c8,rfl⟩:=h.l8.form
 obtain ⟨a9,n9,c9,rfl⟩:=h.l9.form
 obtain ⟨a10,n10,c10,rfl⟩:=h.l10.form
 obtain ⟨a11,n11,c11,rfl⟩:=h.l11.form
 exact Qn.2 ⟨_,_,_,_,_,_,_,_,_,_,_,_,_,_,_,_,_,_,_,_,_,_,_,_,_,_,_,rfl,h.l1.slice hl hh,h.l2.slice hl hh,h.l5.slice hl hh,h.l6.slice hl hh,h.l7.slice hl hh,h.l8.slice hl hh,h.l9.slice hl hh,h.l10.slice hl hh,h.l11.slice hl hh⟩
theorem Qdg {s:Qq} (h:Q4 s=true):Qt (opsS s)=true:=by
 cases e:Qt (opsS s) with
 | true=>rfl
 | false=>rw [Qaj e] at h;exact h
theorem Qor {m:List dOp} {X:List Int} (h:X.length<=6) : ∀ k,(inK m X k).length<=6
 | 0=>h
 | k+1=>Qb2 _ _
theorem Qgh (w:World) (es:List Value) (s:Qq) (h:Qd.reads (Qf w.heap.size) w es s) (hb:Qd.bulk s<=1048576) (m:Int) (ax:Option Addr) (nx cx:Nat) (X:List Int) (hx:IntsIn w.heap.size w ax nx X) (hnx:nx<=1048576)
  (at':Option Addr) (nt ct:Nat) (Y:List Int) (ht:IntsIn w.heap.size w at' nt Y) (hnt:nt<=1048576) (hno:Za s m X Y=false) :
  Calls Tryz.prog 21 #[.agg es.toArray,.int .i64 m,.slice ax nx cx,.slice at' nt ct] w fun e w' => ∃ es',e = .returned (.agg (es':List Value).toArray)/\Qd.reads (From w.heap.size w'.heap.size) w' es' (fwdN s m X Y)/\Below w.heap.size w w':=by
 have hsm:=Z8 hb
 obtain ⟨a1,n1,c1,a2,n2,c2,a5,n5,c5,a6,n6,c6,a7,n7,c7,a8,n8,c8,a9,n9,c9,a10,n10,c10,a11,n11,c11,rfl,⟨p1,q1,l1⟩,⟨p2,q2,l2⟩,⟨p5,q5,l5⟩,⟨p6,q6,l6⟩,⟨p7,q7,l7⟩,⟨p8,q8,l8⟩,⟨p9,q9,l9⟩,⟨p10,q10,l10⟩,⟨p11,q11,l11⟩⟩:=Qn.1 h
 obtain ⟨pc,plan,ops,last,redo,stash,full,xs,ys,gs,ds,rows,loss,sat⟩:=s
 skip
 have HNO:=Lib.hid hno
 clear hno
 replace l2:Qb shOp (Qf w.heap.size) w a2 n2 ops:=l2
 replace l5:Qb Qc (Qf w.heap.size) w a5 n5 stash:=l5
 have hb5:(Shape.list Qc).bulk stash<=1048576:=by rw [Q2] at hb;dsimp only at hb;omega
 have hb2:(Shape.list shOp).bulk ops<=1048576:=hsm.2.1
 have hlen:stash.length<=1048576:=by rw [Qh Qc l5] at hb5;have:=l5.1;omega
 have hbel:Below w.heap.size w ((w.alloc (.cells #[.int .i64 pc,.slice a1 n1 c1,.slice a2 n2 c2,.bool last,.bool redo,.slice a5 n5 c5,.slice a6 n6 c6,.slice a7 n7 c7,.slice a8 n8 c8,.slice a9 n9 c9,.slice a10 n10 c10,.slice a11 n11 c11,.int .i64 loss,.bool sat] 32 (0,0))).alloc (.cells Zj 32 (0,0))):=((Below.refl _ _).alloc (Nat.le_refl _) _).alloc (by simp) _
 have hk0:((w.alloc (.cells #[.int .i64 pc,.slice a1 n1 c1,.slice a2 n2 c2,.bool last,.bool redo,.slice a5 n5 c5,.slice a6 n6 c6,.slice a7 n7 c7,.slice a8 n8 c8,.slice a9 n9 c9,.slice a10 n10 c10,.slice a11 n11 c11,.int .i64 loss,.bool sat] 32 (0,0))).alloc (.cells Zj 32 (0,0))).heap[w.heap.size]? = some (.cells #[.int .i64 pc,.slice a1 n1 c1,.slice a2 n2 c2,.bool last,.bool redo,.slice a5 n5 c5,.slice a6 n6 c6,.slice a7 n7 c7,.slice a8 n8 c8,.slice a9 n9 c9,.slice a10 n10 c10,.slice a11 n11 c11,.int .i64 loss,.bool sat] 32 (0,0)):=by
  rw [Below.heap_alloc _ _ _ (by simp)]
  exact heap_alloc_new w _
 have hk1:((w.alloc (.cells #[.int .i64 pc,.slice a1 n1 c1,.slice a2 n2 c2,.bool last,.bool redo,.slice a5 n5 c5,.slice a6 n6 c6,.slice a7 n7 c7,.slice a8 n8 c8,.slice a9 n9 c9,.slice a10 n10 c10,.slice a11 n11 c11,.int .i64 loss,.bool sat] 32 (0,0))).alloc (.cells Zj 32 (0,0))).heap[w.heap.size+1]? = some (.cells Zj 32 (0,0)):=by
  have:=heap_alloc_new (w.alloc (.cells #[.int .i64 pc,.slice a1 n1 c1,.slice a2 n2 c2,.bool last,.bool redo,.slice a5 n5 c5,.slice a6 n6 c6,.slice a7 n7 c7,.slice a8 n8 c8,.slice a9 n9 c9,.slice a10 n10 c10,.slice a11 n11 c11,.int .i64 loss,.bool sat] 32 (0,0))) (.cells Zj 32 (0,0))
  simpa using this
 have hs0:((w.alloc (.cells #[.int .i64 pc,.slice a1 n1 c1,.slice a2 n2 c2,.bool last,.bool redo,.slice a5 n5 c5,.slice a6 n6 c6,.slice a7 n7 c7,.slice a8 n8 c8,.slice a9 n9 c9,.slice a10 n10 c10,.slice a11 n11 c11,.int .i64 loss,.bool sat] 32 (0,0))).alloc (.cells Zj 32 (0,0))).heap.size=w.heap.size+2:=by simp
 have HRD:=Lib.hid fun (wx:World) (hx:Below w.heap.size w wx)=>Shape.le _ (Shape.below _ h hx (Nat.le_refl _)) hx.size
 have L2:=Lib.hid l2
 have L5:=Lib.hid l5
 have HX:=Lib.hid hx
 have HT:=Lib.hid ht
 have B5:=Lib.hid hb5
 have B2:=Lib.hid hb2
 have HBK:=Lib.hid hb
 have HSM:=Lib.hid hsm
 have K0:=Lib.hid hk0
 have K1:=Lib.hid hk1
 have HA:=Lib.hid hbel
 have HS:=Lib.hid hs0
 clear h hx ht hb5 hb2 hb hsm hk0 hk1 hbel hs0 l1 l2 l5 l6 l7 l8 l9 l10 l11
 go_enter Tryz.func21,Tryz.ntmps21
 go_upto_region 1 with fail
 generalize ((w.alloc (.cells #[.int .i64 pc,.slice a1 n1 c1,.slice a2 n2 c2,.bool last,.bool redo,.slice a5 n5 c5,.slice a6 n6 c6,.slice a7 n7 c7,.slice a8 n8 c8,.slice a9 n9 c9,.slice a10 n10 c10,.slice a11 n11 c11,.int .i64 loss,.bool sat] 32 (0,0))).alloc (.cells Zj 32 (0,0)))=W0 at K0 K1 HA HS |-
 have z0:=Qa K0.out 0 _ rfl
 have z1:=Qa K0.out 1 _ rfl
 have z2:=Qa K0.out 2 _ rfl
 have z3:=Qa K0.out 3 _ rfl
 have z4:=Qa K0.out 4 _ rfl
 have z5:=Qa K0.out 5 _ rfl
 have z6:=Qa K0.out 6 _ rfl
 have z7:=Qa K0.out 7 _ rfl
 have z8:=Qa K0.out 8 _ rfl
 have z9:=Qa K0.out 9 _ rfl
 have z10:=Qa K0.out 10 _ rfl
 have z11:=Qa K0.out 11 _ rfl
 have z12:=Qa K0.out 12 _ rfl
 have z13:=Qa K0.out 13 _ rfl
 have HC:=Lib.hid (Qec W0 _ (pc,plan,ops,last,redo,stash,full,xs,ys,gs,ds,rows,loss,sat) (HRD.out W0 HA.out) HSM.out hlen)
 go_wp2_with fail
 refine HC.out.mono ?_
 rintro e w1 ⟨v1,v2,v5,v6,v7,v8,v9,v10,v11,m1,m2,rfl,hb1,hm1,hm2,hm3,r1,r2,r5,r6,r7,r8,r9,r10,r11⟩
 obtain ⟨u1,k1,d1,rfl⟩:=r1.form
 obtain ⟨u2,k2,d2,rfl⟩:=r2.form
 obtain ⟨u5,d5,e5,-,-⟩:=r5.form
 replace e5:v5 = .slice u5 stash.length d5:=e5
 subst e5
 obtain ⟨u6,k6,d6,rfl⟩:=r6.form
 obtain ⟨u7,k7,d7,rfl⟩:=r7.form
 obtain ⟨u8,k8,d8,rfl⟩:=r8.form
 obtain ⟨u9,k9,d9,rfl⟩:=r9.form
 obtain ⟨u10,k10,d10,rfl⟩:=r10.form
 obtain ⟨u11,k11,d11,rfl⟩:=r11.form
 have hs:=HS.out
 have ha:=(Below.refl w1.heap.size w1).alloc (Nat.le_refl _) (.cells #[.int .i64 pc,.slice u1 k1 d1,.slice u2 k2 d2,.bool last,.bool redo,.slice u5 stash.length d5,.slice u6 k6 d6,.slice u7 k7 d7,.slice u8 k8 d8,.slice u9 k9 d9,.slice u10 k10 d10,.slice u11 k11 d11,.int .i64 loss,.bool sat] 32 (0,0))
 have hs1:=hb1.size
 have hq0:=(hb1.block w.heap.size (by omega)).trans K0.out
 have hq1:=(hb1.block (w.heap.size+1) (by omega)).trans K1.out
 have hnine:NineL W0.heap.size w1.heap.size w1 (.slice u1 k1 d1) (.slice u2 k2 d2) (.slice u5 stash.length d5) (.slice u6 k6 d6) (.slice u7 k7 d7) (.slice u8 k8 d8) (.slice u9 k9 d9) (.slice u10 k10 d10) (.slice u11 k11 d11) (pc,plan,ops,last,redo,stash,full,xs,ys,gs,ds,rows,loss,sat):=
  ⟨r1.wide (by omega) (by omega) (by omega),r2.wide (by omega) (by omega) (by omega),(LL.ofL r5 (by decide)).wide (by omega) (by omega) (by omega),r6.wide (by omega) (by omega) (by omega),r7.wide (by omega) (by omega) (by omega),r8.wide (by omega) (by omega) (by omega),r9.wide (by omega) (by omega) (by omega),r10.wide (by omega) (by omega) (by omega),r11.wide (by omega) (by omega) (by omega)⟩
 have KY:=Lib.hid (heap_alloc_new w1 (.cells #[.int .i64 pc,.slice u1 k1 d1,.slice u2 k2 d2,.bool last,.bool redo,.slice u5 stash.length d5,.slice u6 k6 d6,.slice u7 k7 d7,.slice u8 k8 d8,.slice u9 k9 d9,.slice u10 k10 d10,.slice u11 k11 d11,.int .i64 loss,.bool sat] 32 (0,0)))
 have Q0:=Lib.hid ((ha.block w.heap.size (by omega)).trans hq0)
 have Q1:=Lib.hid ((ha.block (w.heap.size+1) (by omega)).trans hq1)
 have B2':=Lib.hid (HA.out.trans ((hb1.trans (ha.mono hs1)).mono HA.out.size))
 have SZ:=Lib.hid (show (w1.alloc (.cells #[.int .i64 pc,.slice u1 k1 d1,.slice u2 k2 d2,.bool last,.bool redo,.slice u5 stash.length d5,.slice u6 k6 d6,.slice u7 k7 d7,.slice u8 k8 d8,.slice u9 k9 d9,.slice u10 k10 d10,.slice u11 k11 d11,.int .i64 loss,.bool sat] 32 (0,0))).heap.size=w1.heap.size+1 by simp)
 have NI:=Lib.hid hnine
 have AL:=Lib.hid ha
 have R1:=Lib.hid r1
 have R2:=Lib.hid r2
 have R5:=Lib.hid r5
 have R6:=Lib.hid r6
 have R7:=Lib.hid r7
 have R8:=Lib.hid r8
 have R9:=Lib.hid r9
 have R10:=Lib.hid r10
 have R11:=Lib.hid r11
 have HMM:=Lib.hid (And.intro hm1 (And.intro hm2 hm3))
 clear ha hq0 hq1 hnine HC hb1 r1 r2 r6 r7 r8 r9 r10 r11 r5 hs1 z0 z1 z2 z3 z4 z5 z6 z7 z8 z9 z10 z11 z12 z13
 go_upto_region 2 with fail
 generalize w1.alloc (.cells #[.int .i64 pc,.slice u1 k1 d1,.slice u2 k2 d2,.bool last,.bool redo,.slice u5 stash.length d5,.slice u6 k6 d6,.slice u7 k7 d7,.slice u8 k8 d8,.slice u9 k9 d9,.slice u10 k10 d10,.slice u11 k11 d11,.int .i64 loss,.bool sat] 32 (0,0))=W2 at KY Q0 Q1 B2' SZ AL |-
 have END:Hid (Za (pc,plan,ops,last,redo,stash,full,xs,ys,gs,ds,rows,loss,sat) m X Y=false -> ∀ wx,Below W2.heap.size W2 wx -> ∀ wf,wf.heap.size=wx.heap.size->(∀ b,b≠w.heap.size+1->wf.heap[b]? = wx.heap[b]?)->Below w.heap.size w wf -> ∃ es',Ending.returned (.agg #[.int .i64 pc,.slice u1 k1 d1,.slice u2 k2 d2,.bool last,.bool redo,.slice u5 stash.length d5,.slice u6 k6 d6,.slice u7 k7 d7,.slice u8 k8 d8,.slice u9 k9 d9,.slice u10 k10 d10,.slice u11 k11 d11,.int .i64 loss,.bool sat]) = .returned (.agg (es':List Value).toArray)/\Qd.reads (From w.heap.size wf.heap.size) wf es' (fwdN (pc,plan,ops,last,redo,stash,full,xs,ys,gs,ds,rows,loss,sat) m X Y)/\Below w.heap.size w wf):=Lib.hid fun hno wx hx wf s1 s2 s3=>by
  have hs1:=SZ.out
  have hs2:=HS.out
  have hs3:=hx.size
  have n1:=NI.out.keep (wy:=W2) (by omega) (fun b _ hb=>AL.out.block b hb)
  have n2:=n1.keep (wy:=wx) (by omega) (fun b _ hb=>hx.block b (by omega))
  have n3:=n2.keep (wy:=wf) (by omega) (fun b hb _=>s2 b (by omega))
  exact ⟨[.int .i64 pc,.slice u1 k1 d1,.slice u2 k2 d2,.bool last,.bool redo,.slice u5 stash.length d5,.slice u6 k6 d6,.slice u7 k7 d7,.slice u8 k8 d8,.slice u9 k9 d9,.slice u10 k10 d10,.slice u11 k11 d11,.int .i64 loss,.bool sat],rfl,by rw [Qn8 hno];exact n3.reads (by omega) (by omega),s3⟩
 obtain ⟨p,hp⟩ : ∃ p,Q4 (pc,plan,ops,last,redo,stash,full,xs,ys,gs,ds,rows,loss,sat)=p:=⟨_,rfl⟩
 have HP:=Lib.hid hp
 have HOK:=Lib.hid (Qb6 W2 _ (pc,plan,ops,last,redo,stash,full,xs,ys,gs,ds,rows,loss,sat) (HRD.out W2 B2'.out) HBK.out)
 rw [HP.out] at HOK
 clear hp
 have z0:=Qa Q0.out 0 _ rfl
 have z1:=Qa Q0.out 1 _ rfl
 have z2:=Qa Q0.out 2 _ rfl
 have z3:=Qa Q0.out 3 _ rfl
 have z4:=Qa Q0.out 4 _ rfl
 have z5:=Qa Q0.out 5 _ rfl
 have z6:=Qa Q0.out 6 _ rfl
 have z7:=Qa Q0.out 7 _ rfl
 have z8:=Qa Q0.out 8 _ rfl
 have z9:=Qa Q0.out 9 _ rfl
 have z10:=Qa Q0.out 10 _ rfl
 have z11:=Qa Q0.out 11 _ rfl
 have z12:=Qa Q0.out 12 _ rfl
 have z13:=Qa Q0.out 13 _ rfl
 go_wp2_with fail
 refine HOK.out.mono ?_
 rintro e wq ⟨rfl,hbq⟩
 have HQ:=Lib.hid hbq
 have hs1:=SZ.out
 have hs2:=hbq.size
 have hw2:w.heap.size+2<=w1.heap.size:=by omega
 have KYq:=Lib.hid ((hbq.block w1.heap.size (by omega)).trans KY.out)
 have Q0q:=Lib.hid ((hbq.block w.heap.size (by omega)).trans Q0.out)
 have Q1q:=Lib.hid ((hbq.block (w.heap.size+1) (by omega)).trans Q1.out)
 have BQ:=Lib.hid (B2'.out.trans (hbq.mono B2'.out.size))
 have HW:=Lib.hid hw2
 clear hbq hs1 hs2 hw2 HOK hs z0 z1 z2 z3 z4 z5 z6 z7 z8 z9 z10 z11 z12 z13
 cases p
 ·skip
  have y0:=Qa KYq.out 0 _ rfl
  have c0':=Qa Q1q.out 0 _ rfl
  have f0:wq.frozen? ⟨w.heap.size+1,0,none⟩=false:=frozen_of_row _ _ _ _ _ Q1q.out
  have y1:=Qa KYq.out 1 _ rfl
  have c1':=Qa Q1q.out 1 _ rfl
  have f1:wq.frozen? ⟨w.heap.size+1,1,none⟩=false:=frozen_of_row _ _ _ _ _ Q1q.out
  have y2:=Qa KYq.out 2 _ rfl
  have c2':=Qa Q1q.out 2 _ rfl
  have f2:wq.frozen? ⟨w.heap.size+1,2,none⟩=false:=frozen_of_row _ _ _ _ _ Q1q.out
  have y3:=Qa KYq.out 3 _ rfl
  have c3':=Qa Q1q.out 3 _ rfl
  have f3:wq.frozen? ⟨w.heap.size+1,3,none⟩=false:=frozen_of_row _ _ _ _ _ Q1q.out
  have y4:=Qa KYq.out 4 _ rfl
  have c4':=Qa Q1q.out 4 _ rfl
  have f4:wq.frozen? ⟨w.heap.size+1,4,none⟩=false:=frozen_of_row _ _ _ _ _ Q1q.out
  have y5:=Qa KYq.out 5 _ rfl
  have c5':=Qa Q1q.out 5 _ rfl
  have f5:wq.frozen? ⟨w.heap.size+1,5,none⟩=false:=frozen_of_row _ _ _ _ _ Q1q.out
  have y6:=Qa KYq.out 6 _ rfl
  have c6':=Qa Q1q.out 6 _ rfl
  have f6:wq.frozen? ⟨w.heap.size+1,6,none⟩=false:=frozen_of_row _ _ _ _ _ Q1q.out
  have y7:=Qa KYq.out 7 _ rfl
  have c7':=Qa Q1q.out 7 _ rfl
  have f7:wq.frozen? ⟨w.heap.size+1,7,none⟩=false:=frozen_of_row _ _ _ _ _ Q1q.out
  have y8:=Qa KYq.out 8 _ rfl
  have c8':=Qa Q1q.out 8 _ rfl
  have f8:wq.frozen? ⟨w.heap.size+1,8,none⟩=false:=frozen_of_row _ _ _ _ _ Q1q.out
  have y9:=Qa KYq.out 9 _ rfl
  have c9':=Qa Q1q.out 9 _ rfl
  have f9:wq.frozen? ⟨w.heap.size+1,9,none⟩=false:=frozen_of_row _ _ _ _ _ Q1q.out
  have y10:=Qa KYq.out 10 _ rfl
  have c10':=Qa Q1q.out 10 _ rfl
  have f10:wq.frozen? ⟨w.heap.size+1,10,none⟩=false:=frozen_of_row _ _ _ _ _ Q1q.out
  have y11:=Qa KYq.out 11 _ rfl
  have c11':=Qa Q1q.out 11 _ rfl
  have f11:wq.frozen? ⟨w.heap.size+1,11,none⟩=false:=frozen_of_row _ _ _ _ _ Q1q.out
  have y12:=Qa KYq.out 12 _ rfl
  have c12':=Qa Q1q.out 12 _ rfl
  have f12:wq.frozen? ⟨w.heap.size+1,12,none⟩=false:=frozen_of_row _ _ _ _ _ Q1q.out
  have y13:=Qa KYq.out 13 _ rfl
  have c13':=Qa Q1q.out 13 _ rfl
  have f13:wq.frozen? ⟨w.heap.size+1,13,none⟩=false:=frozen_of_row _ _ _ _ _ Q1q.out
  obtain ⟨e1,e2,e3,e4⟩:=Zn Q1q.out (.int .i64 pc) (.slice u1 k1 d1) (.slice u2 k2 d2) (.bool last) (.bool redo) (.slice u5 stash.length d5) (.slice u6 k6 d6) (.slice u7 k7 d7) (.slice u8 k8 d8) (.slice u9 k9 d9) (.slice u10 k10 d10) (.slice u11 k11 d11) (.int .i64 loss) (.bool sat)
  have E1:=Lib.hid e1
  have E2:=Lib.hid e2
  have E3:=Lib.hid e3
  have E4:=Lib.hid (e4 w.heap.size w (by omega) BQ.out)
  clear e1 e2 e3 e4
  go_wp2_with fail
  refine bodyPost_ret (results_cell_row rfl _ _ (w.heap.size+1) 32 #[.int .i64 pc,.slice u1 k1 d1,.slice u2 k2 d2,.bool last,.bool redo,.slice u5 stash.length d5,.slice u6 k6 d6,.slice u7 k7 d7,.slice u8 k8 d8,.slice u9 k9 d9,.slice u10 k10 d10,.slice u11 k11 d11,.int .i64 loss,.bool sat] (0,0) _ rfl E1.out Tryz.underlying32 rfl (by kernel_rfl)) rfl ?_
  exact END.out (by unfold Za;rw [HP.out];rfl) wq HQ.out _ E2.out E3.out E4.out
 ·obtain ⟨-,hlo,hhi⟩:=Z4 (Qdg HP.out)
  replace hlo:1<=ops.length:=hlo
  replace hhi:ops.length<=8:=hhi
  rw [L2.out.1] at hlo hhi
  obtain ⟨N,hN⟩ : ∃ N:Nat,N=n2-1:=⟨_,rfl⟩
  have hw1:wrap64 ((n2:Int)-1)=(N:Int):=by rw [IntWalk.wrap64_in _ (by omega)];omega
  have hw2:(n2:Int)-1=(N:Int):=by omega
  have hNn:N<n2:=by omega
  have h0n:0<n2:=by omega
  obtain ⟨b,o,x0,ax0,nx0,cx0,hx0,rfl,hbB,-,hi1,-,-,-,-,-⟩:=Qds L2.out 0 h0n
  obtain ⟨b',o',xl,axl,nxl,cxl,hxl,eb,-,-,-,hl2,-,-,-,-⟩:=Qds L2.out N hNn
  cases eb
  obtain ⟨I,hI⟩ : ∃ I,x0.2.1=I:=⟨_,rfl⟩
  obtain ⟨O,hO⟩ : ∃ O,xl.2.2.1=O:=⟨_,rfl⟩
  have hI0:(opAt ops 0).2.1=I:=by rw [Zf hx0,hI]
  have hO0:(opAt ops (ops.length-1)).2.2.1=O:=by rw [L2.out.1,<- hN,Zf hxl,hO]
  rw [hI] at hi1
  rw [hO] at hl2
  rw [Nat.zero_mul,Nat.add_zero] at hi1
  have d1:=(BQ.out.cell (p:=⟨b,o+1,none⟩) hbB).trans hi1
  have d2:=(BQ.out.cell (p:=⟨b,o+N*4+2,none⟩) hbB).trans hl2
  have HI0:=Lib.hid hI0
  have HO0:=Lib.hid hO0
  have HN:=Lib.hid hN
  clear hN hx0 hxl hI hO hI0 hO0 hi1 hl2
  have hXl:((X.length:Int))=nx:=by rw [HX.out.1]
  have HXL:=Lib.hid hXl
  have hYl:((Y.length:Int))=nt:=by rw [HT.out.1]
  have HYL:=Lib.hid hYl
  clear hXl hYl
  obtain ⟨q,hq⟩ : ∃ q,Qm X=q:=⟨_,rfl⟩
  have HV:=Lib.hid (Qu wq ax nx cx X ((HX.out.below BQ.out (Nat.le_refl _)).le BQ.out.size))
  rw [hq] at HV
  have HVX:=Lib.hid hq
  clear hq
  have z2:=Qa Q0q.out 2 _ rfl
  have z3:=Qa Q0q.out 3 _ rfl
  have z5:=Qa Q0q.out 5 _ rfl
  cases q
  ·skip
   go_wp2_with fail
   refine HV.out.mono ?_
   rintro e w' ⟨rfl,rfl⟩
   go_upto_region 3 with fail
   clear z2 z3 z5 d1 d2 hw1 hw2 hNn h0n hlo hhi
   have y0:=Qa KYq.out 0 _ rfl
   have c0':=Qa Q1q.out 0 _ rfl
   have f0:wq.frozen? ⟨w.heap.size+1,0,none⟩=false:=frozen_of_row _ _ _ _ _ Q1q.out
   have y1:=Qa KYq.out 1 _ rfl
   have c1':=Qa Q1q.out 1 _ rfl
   have f1:wq.frozen? ⟨w.heap.size+1,1,none⟩=false:=frozen_of_row _ _ _ _ _ Q1q.out
   have y2:=Qa KYq.out 2 _ rfl
   have c2':=Qa Q1q.out 2 _ rfl
   have f2:wq.frozen? ⟨w.heap.size+1,2,none⟩=false:=frozen_of_row _ _ _ _ _ Q1q.out
   have y3:=Qa KYq.out 3 _ rfl
   have c3':=Qa Q1q.out 3 _ rfl
   have f3:wq.frozen? ⟨w.heap.size+1,3,none⟩=false:=frozen_of_row _ _ _ _ _ Q1q.out
   have y4:=Qa KYq.out 4 _ rfl
   have c4':=Qa Q1q.out 4 _ rfl
   have f4:wq.frozen? ⟨w.heap.size+1,4,none⟩=false:=frozen_of_row _ _ _ _ _ Q1q.out
   have y5:=Qa KYq.out 5 _ rfl
   have c5':=Qa Q1q.out 5 _ rfl
   have f5:wq.frozen? ⟨w.heap.size+1,5,none⟩=false:=frozen_of_row _ _ _ _ _ Q1q.out
   have y6:=Qa KYq.out 6 _ rfl
   have c6':=Qa Q1q.out 6 _ rfl
   have f6:wq.frozen? ⟨w.heap.size+1,6,none⟩=false:=frozen_of_row _ _ _ _ _ Q1q.out
   have y7:=Qa KYq.out 7 _ rfl
   have c7':=Qa Q1q.out 7 _ rfl
   have f7:wq.frozen? ⟨w.heap.size+1,7,none⟩=false:=frozen_of_row _ _ _ _ _ Q1q.out
   have y8:=Qa KYq.out 8 _ rfl
   have c8':=Qa Q1q.out 8 _ rfl
   have f8:wq.frozen? ⟨w.heap.size+1,8,none⟩=false:=frozen_of_row _ _ _ _ _ Q1q.out
   have y9:=Qa KYq.out 9 _ rfl
   have c9':=Qa Q1q.out 9 _ rfl
   have f9:wq.frozen? ⟨w.heap.size+1,9,none⟩=false:=frozen_of_row _ _ _ _ _ Q1q.out
   have y10:=Qa KYq.out 10 _ rfl
   have c10':=Qa Q1q.out 10 _ rfl
   have f10:wq.frozen? ⟨w.heap.size+1,10,none⟩=false:=frozen_of_row _ _ _ _ _ Q1q.out
   have y11:=Qa KYq.out 11 _ rfl
   have c11':=Qa Q1q.out 11 _ rfl
   have f11:wq.frozen? ⟨w.heap.size+1,11,none⟩=false:=frozen_of_row _ _ _ _ _ Q1q.out
   have y12:=Qa KYq.out 12 _ rfl
   have c12':=Qa Q1q.out 12 _ rfl
   have f12:wq.frozen? ⟨w.heap.size+1,12,none⟩=false:=frozen_of_row _ _ _ _ _ Q1q.out
   have y13:=Qa KYq.out 13 _ rfl
   have c13':=Qa Q1q.out 13 _ rfl
   have f13:wq.frozen? ⟨w.heap.size+1,13,none⟩=false:=frozen_of_row _ _ _ _ _ Q1q.out
   obtain ⟨e1,e2,e3,e4⟩:=Zn Q1q.out (.int .i64 pc) (.slice u1 k1 d1) (.slice u2 k2 d2) (.bool last) (.bool redo) (.slice u5 stash.length d5) (.slice u6 k6 d6) (.slice u7 k7 d7) (.slice u8 k8 d8) (.slice u9 k9 d9) (.slice u10 k10 d10) (.slice u11 k11 d11) (.int .i64 loss) (.bool sat)
   have E1:=Lib.hid e1
   have E2:=Lib.hid e2
   have E3:=Lib.hid e3
   have E4:=Lib.hid (e4 w.heap.size w (by omega) BQ.out)
   clear e1 e2 e3 e4
   go_wp2_with fail
   refine bodyPost_ret (results_cell_row rfl _ _ (w.heap.size+1) 32 #[.int .i64 pc,.slice u1 k1 d1,.slice u2 k2 d2,.bool last,.bool redo,.slice u5 stash.length d5,.slice u6 k6 d6,.slice u7 k7 d7,.slice u8 k8 d8,.slice u9 k9 d9,.slice u10 k10 d10,.slice u11 k11 d11,.int .i64 loss,.bool sat] (0,0) _ rfl E1.out Tryz.underlying32 rfl (by kernel_rfl)) rfl ?_
   exact END.out (by unfold Za;rw [HP.out,HVX.out];simp) wq HQ.out _ E2.out E3.out E4.out
  ·by_cases hC:(nx:Int)=I
   ·have g2:((nx:Int) != I)=false:=by simp [hC]
    have g3:((nx:Int) == I)=true:=beq_iff_eq.2 hC
    have HCC:=Lib.hid hC
    clear hC
    obtain ⟨R,hR⟩ : ∃ R,Qar stash m=R:=⟨_,rfl⟩
    have HF:=Lib.hid (Qa7 wq a5 n5 c5 stash m ((L5.out.below BQ.out (Nat.le_refl _)).le BQ.out.size) (by rw [<- L5.out.1];exact hlen))
    rw [hR] at HF
    have HR:=Lib.hid hR
    clear hR
    by_cases hD:R<0
    ·have g4:decide (R>=0)=false:=decide_eq_false (by omega)
     have g5:decide (0<=R)=false:=decide_eq_false (by omega)
     have HD:=Lib.hid hD
     clear hD
     cases last
     ·exact absurd (show Za (pc,plan,ops,false,redo,stash,full,xs,ys,gs,ds,rows,loss,sat) m X Y=true from by unfold Za;show (Q4 _ && Qm X && decide ((X.length:Int)=(opAt ops 0).2.1) && decide (Qar stash m<0) && !(false && _))=true;rw [HP.out,HVX.out,HXL.out,HI0.out,decide_eq_true HCC.out,HR.out,decide_eq_true HD.out];rfl) (by rw [HNO.out];simp)
     ·skip
      obtain ⟨q2,hq2⟩ : ∃ q,Qm Y=q:=⟨_,rfl⟩
      have HVT:=Lib.hid (Qu wq at' nt ct Y ((HT.out.below BQ.out (Nat.le_refl _)).le BQ.out.size))
      rw [hq2] at HVT
      have HVY:=Lib.hid hq2
      clear hq2
      cases q2
      ·skip
       go_wp2_with fail
       refine HV.out.mono ?_
       rintro e w' ⟨rfl,rfl⟩
       go_wp2_with fail
       refine HF.out.mono ?_
       rintro e w' ⟨rfl,rfl⟩
       go_wp2_with fail
       refine HVT.out.mono ?_
       rintro e w' ⟨rfl,rfl⟩
       go_upto_region 3 with fail
       clear z2 z3 z5 d1 d2 hw1 hw2 hNn h0n hlo hhi g2 g3 g4 g5
       have y0:=Qa KYq.out 0 _ rfl
       have c0':=Qa Q1q.out 0 _ rfl
       have f0:wq.frozen? ⟨w.heap.size+1,0,none⟩=false:=frozen_of_row _ _ _ _ _ Q1q.out
       have y1:=Qa KYq.out 1 _ rfl
       have c1':=Qa Q1q.out 1 _ rfl
       have f1:wq.frozen? ⟨w.heap.size+1,1,none⟩=false:=frozen_of_row _ _ _ _ _ Q1q.out
       have y2:=Qa KYq.out 2 _ rfl
       have c2':=Qa Q1q.out 2 _ rfl
       have f2:wq.frozen? ⟨w.heap.size+1,2,none⟩=false:=frozen_of_row _ _ _ _ _ Q1q.out
       have y3:=Qa KYq.out 3 _ rfl
       have c3':=Qa Q1q.out 3 _ rfl
       have f3:wq.frozen? ⟨w.heap.size+1,3,none⟩=false:=frozen_of_row _ _ _ _ _ Q1q.out
       have y4:=Qa KYq.out 4 _ rfl
       have c4':=Qa Q1q.out 4 _ rfl
       have f4:wq.frozen? ⟨w.heap.size+1,4,none⟩=false:=frozen_of_row _ _ _ _ _ Q1q.out
       have y5:=Qa KYq.out 5 _ rfl
       have c5':=Qa Q1q.out 5 _ rfl
       have f5:wq.frozen? ⟨w.heap.size+1,5,none⟩=false:=frozen_of_row _ _ _ _ _ Q1q.out
       have y6:=Qa KYq.out 6 _ rfl
       have c6':=Qa Q1q.out 6 _ rfl
       have f6:wq.frozen? ⟨w.heap.size+1,6,none⟩=false:=frozen_of_row _ _ _ _ _ Q1q.out
       have y7:=Qa KYq.out 7 _ rfl
       have c7':=Qa Q1q.out 7 _ rfl
       have f7:wq.frozen? ⟨w.heap.size+1,7,none⟩=false:=frozen_of_row _ _ _ _ _ Q1q.out
       have y8:=Qa KYq.out 8 _ rfl
       have c8':=Qa Q1q.out 8 _ rfl
       have f8:wq.frozen? ⟨w.heap.size+1,8,none⟩=false:=frozen_of_row _ _ _ _ _ Q1q.out
       have y9:=Qa KYq.out 9 _ rfl
       have c9':=Qa Q1q.out 9 _ rfl
       have f9:wq.frozen? ⟨w.heap.size+1,9,none⟩=false:=frozen_of_row _ _ _ _ _ Q1q.out
       have y10:=Qa KYq.out 10 _ rfl
       have c10':=Qa Q1q.out 10 _ rfl
       have f10:wq.frozen? ⟨w.heap.size+1,10,none⟩=false:=frozen_of_row _ _ _ _ _ Q1q.out
       have y11:=Qa KYq.out 11 _ rfl
       have c11':=Qa Q1q.out 11 _ rfl
       have f11:wq.frozen? ⟨w.heap.size+1,11,none⟩=false:=frozen_of_row _ _ _ _ _ Q1q.out
       have y12:=Qa KYq.out 12 _ rfl
       have c12':=Qa Q1q.out 12 _ rfl
       have f12:wq.frozen? ⟨w.heap.size+1,12,none⟩=false:=frozen_of_row _ _ _ _ _ Q1q.out
       have y13:=Qa KYq.out 13 _ rfl
       have c13':=Qa Q1q.out 13 _ rfl
       have f13:wq.frozen? ⟨w.heap.size+1,13,none⟩=false:=frozen_of_row _ _ _ _ _ Q1q.out
       obtain ⟨e1,e2,e3,e4⟩:=Zn Q1q.out (.int .i64 pc) (.slice u1 k1 d1) (.slice u2 k2 d2) (.bool true) (.bool redo) (.slice u5 stash.length d5) (.slice u6 k6 d6) (.slice u7 k7 d7) (.slice u8 k8 d8) (.slice u9 k9 d9) (.slice u10 k10 d10) (.slice u11 k11 d11) (.int .i64 loss) (.bool sat)
       have E1:=Lib.hid e1
       have E2:=Lib.hid e2
       have E3:=Lib.hid e3
       have E4:=Lib.hid (e4 w.heap.size w (by omega) BQ.out)
       clear e1 e2 e3 e4
       go_wp2_with fail
       refine bodyPost_ret (results_cell_row rfl _ _ (w.heap.size+1) 32 #[.int .i64 pc,.slice u1 k1 d1,.slice u2 k2 d2,.bool true,.bool redo,.slice u5 stash.length d5,.slice u6 k6 d6,.slice u7 k7 d7,.slice u8 k8 d8,.slice u9 k9 d9,.slice u10 k10 d10,.slice u11 k11 d11,.int .i64 loss,.bool sat] (0,0) _ rfl E1.out Tryz.underlying32 rfl (by kernel_rfl)) rfl ?_
       exact END.out (by unfold Za;show (_ && !(true && !(Qm Y && _)))=false;rw [HVY.out];simp) wq HQ.out _ E2.out E3.out E4.out
      ·by_cases hE:(nt:Int)=O
       ·have g6:((nt:Int) != O)=false:=by simp [hE]
        have g7:((nt:Int) == O)=true:=beq_iff_eq.2 hE
        have HEE:=Lib.hid hE
        clear hE
        exact absurd (show Za (pc,plan,ops,true,redo,stash,full,xs,ys,gs,ds,rows,loss,sat) m X Y=true from by unfold Za;show (Q4 _ && Qm X && decide ((X.length:Int)=(opAt ops 0).2.1) && decide (Qar stash m<0) && !(true && !(Qm Y && decide ((Y.length:Int)=(opAt ops (ops.length-1)).2.2.1))))=true;rw [HP.out,HVX.out,HXL.out,HI0.out,decide_eq_true HCC.out,HR.out,decide_eq_true HD.out,HVY.out,HYL.out,HO0.out,decide_eq_true HEE.out];rfl) (by rw [HNO.out];simp)
       ·have g6:((nt:Int) != O)=true:=by simp [hE]
        have g7:((nt:Int) == O)=false:=beq_eq_false_iff_ne.2 hE
        have HEE:=Lib.hid hE
        clear hE
        go_wp2_with fail
        refine HV.out.mono ?_
        rintro e w' ⟨rfl,rfl⟩
        go_wp2_with fail
        refine HF.out.mono ?_
        rintro e w' ⟨rfl,rfl⟩
        go_wp2_with fail
        refine HVT.out.mono ?_
        rintro e w' ⟨rfl,rfl⟩
        go_upto_region 3 with fail
        clear z2 z3 z5 d1 d2 hw1 hw2 hNn h0n hlo hhi g2 g3 g4 g5 g6 g7
        have y0:=Qa KYq.out 0 _ rfl
        have c0':=Qa Q1q.out 0 _ rfl
        have f0:wq.frozen? ⟨w.heap.size+1,0,none⟩=false:=frozen_of_row _ _ _ _ _ Q1q.out
        have y1:=Qa KYq.out 1 _ rfl
        have c1':=Qa Q1q.out 1 _ rfl
        have f1:wq.frozen? ⟨w.heap.size+1,1,none⟩=false:=frozen_of_row _ _ _ _ _ Q1q.out
        have y2:=Qa KYq.out 2 _ rfl
        have c2':=Qa Q1q.out 2 _ rfl
        have f2:wq.frozen? ⟨w.heap.size+1,2,none⟩=false:=frozen_of_row _ _ _ _ _ Q1q.out
        have y3:=Qa KYq.out 3 _ rfl
        have c3':=Qa Q1q.out 3 _ rfl
        have f3:wq.frozen? ⟨w.heap.size+1,3,none⟩=false:=frozen_of_row _ _ _ _ _ Q1q.out
        have y4:=Qa KYq.out 4 _ rfl
        have c4':=Qa Q1q.out 4 _ rfl
        have f4:wq.frozen? ⟨w.heap.size+1,4,none⟩=false:=frozen_of_row _ _ _ _ _ Q1q.out
        have y5:=Qa KYq.out 5 _ rfl
        have c5':=Qa Q1q.out 5 _ rfl
        have f5:wq.frozen? ⟨w.heap.size+1,5,none⟩=false:=frozen_of_row _ _ _ _ _ Q1q.out
        have y6:=Qa KYq.out 6 _ rfl
        have c6':=Qa Q1q.out 6 _ rfl
        have f6:wq.frozen? ⟨w.heap.size+1,6,none⟩=false:=frozen_of_row _ _ _ _ _ Q1q.out
        have y7:=Qa KYq.out 7 _ rfl
        have c7':=Qa Q1q.out 7 _ rfl
        have f7:wq.frozen? ⟨w.heap.size+1,7,none⟩=false:=frozen_of_row _ _ _ _ _ Q1q.out
        have y8:=Qa KYq.out 8 _ rfl
        have c8':=Qa Q1q.out 8 _ rfl
        have f8:wq.frozen? ⟨w.heap.size+1,8,none⟩=false:=frozen_of_row _ _ _ _ _ Q1q.out
        have y9:=Qa KYq.out 9 _ rfl
        have c9':=Qa Q1q.out 9 _ rfl
        have f9:wq.frozen? ⟨w.heap.size+1,9,none⟩=false:=frozen_of_row _ _ _ _ _ Q1q.out
        have y10:=Qa KYq.out 10 _ rfl
        have c10':=Qa Q1q.out 10 _ rfl
        have f10:wq.frozen? ⟨w.heap.size+1,10,none⟩=false:=frozen_of_row _ _ _ _ _ Q1q.out
        have y11:=Qa KYq.out 11 _ rfl
        have c11':=Qa Q1q.out 11 _ rfl
        have f11:wq.frozen? ⟨w.heap.size+1,11,none⟩=false:=frozen_of_row _ _ _ _ _ Q1q.out
        have y12:=Qa KYq.out 12 _ rfl
        have c12':=Qa Q1q.out 12 _ rfl
        have f12:wq.frozen? ⟨w.heap.size+1,12,none⟩=false:=frozen_of_row _ _ _ _ _ Q1q.out
        have y13:=Qa KYq.out 13 _ rfl
        have c13':=Qa Q1q.out 13 _ rfl
        have f13:wq.frozen? ⟨w.heap.size+1,13,none⟩=false:=frozen_of_row _ _ _ _ _ Q1q.out
        obtain ⟨e1,e2,e3,e4⟩:=Zn Q1q.out (.int .i64 pc) (.slice u1 k1 d1) (.slice u2 k2 d2) (.bool true) (.bool redo) (.slice u5 stash.length d5) (.slice u6 k6 d6) (.slice u7 k7 d7) (.slice u8 k8 d8) (.slice u9 k9 d9) (.slice u10 k10 d10) (.slice u11 k11 d11) (.int .i64 loss) (.bool sat)
        have E1:=Lib.hid e1
        have E2:=Lib.hid e2
        have E3:=Lib.hid e3
        have E4:=Lib.hid (e4 w.heap.size w (by omega) BQ.out)
        clear e1 e2 e3 e4
        go_wp2_with fail
        refine bodyPost_ret (results_cell_row rfl _ _ (w.heap.size+1) 32 #[.int .i64 pc,.slice u1 k1 d1,.slice u2 k2 d2,.bool true,.bool redo,.slice u5 stash.length d5,.slice u6 k6 d6,.slice u7 k7 d7,.slice u8 k8 d8,.slice u9 k9 d9,.slice u10 k10 d10,.slice u11 k11 d11,.int .i64 loss,.bool sat] (0,0) _ rfl E1.out Tryz.underlying32 rfl (by kernel_rfl)) rfl ?_
        exact END.out (by unfold Za;show (_ && !(true && !(_ && decide ((Y.length:Int)=(opAt ops (ops.length-1)).2.2.1))))=false;rw [HYL.out,HO0.out,decide_eq_false HEE.out];simp) wq HQ.out _ E2.out E3.out E4.out
    ·have g4:decide (R>=0)=true:=decide_eq_true (by omega)
     have g5:decide (0<=R)=true:=decide_eq_true (by omega)
     have HD:=Lib.hid hD
     clear hD
     go_wp2_with fail
     refine HV.out.mono ?_
     rintro e w' ⟨rfl,rfl⟩
     go_wp2_with fail
     refine HF.out.mono ?_
     rintro e w' ⟨rfl,rfl⟩
     go_upto_region 3 with fail
     clear z2 z3 z5 d1 d2 hw1 hw2 hNn h0n hlo hhi g2 g3 g4 g5
     have y0:=Qa KYq.out 0 _ rfl
     have c0':=Qa Q1q.out 0 _ rfl
     have f0:wq.frozen? ⟨w.heap.size+1,0,none⟩=false:=frozen_of_row _ _ _ _ _ Q1q.out
     have y1:=Qa KYq.out 1 _ rfl
     have c1':=Qa Q1q.out 1 _ rfl
     have f1:wq.frozen? ⟨w.heap.size+1,1,none⟩=false:=frozen_of_row _ _ _ _ _ Q1q.out
     have y2:=Qa KYq.out 2 _ rfl
     have c2':=Qa Q1q.out 2 _ rfl
     have f2:wq.frozen? ⟨w.heap.size+1,2,none⟩=false:=frozen_of_row _ _ _ _ _ Q1q.out
     have y3:=Qa KYq.out 3 _ rfl
     have c3':=Qa Q1q.out 3 _ rfl
     have f3:wq.frozen? ⟨w.heap.size+1,3,none⟩=false:=frozen_of_row _ _ _ _ _ Q1q.out
     have y4:=Qa KYq.out 4 _ rfl
     have c4':=Qa Q1q.out 4 _ rfl
     have f4:wq.frozen? ⟨w.heap.size+1,4,none⟩=false:=frozen_of_row _ _ _ _ _ Q1q.out
     have y5:=Qa KYq.out 5 _ rfl
     have c5':=Qa Q1q.out 5 _ rfl
     have f5:wq.frozen? ⟨w.heap.size+1,5,none⟩=false:=frozen_of_row _ _ _ _ _ Q1q.out
     have y6:=Qa KYq.out 6 _ rfl
     have c6':=Qa Q1q.out 6 _ rfl
     have f6:wq.frozen? ⟨w.heap.size+1,6,none⟩=false:=frozen_of_row _ _ _ _ _ Q1q.out
     have y7:=Qa KYq.out 7 _ rfl
     have c7':=Qa Q1q.out 7 _ rfl
     have f7:wq.frozen? ⟨w.heap.size+1,7,none⟩=false:=frozen_of_row _ _ _ _ _ Q1q.out
     have y8:=Qa KYq.out 8 _ rfl
     have c8':=Qa Q1q.out 8 _ rfl
     have f8:wq.frozen? ⟨w.heap.size+1,8,none⟩=false:=frozen_of_row _ _ _ _ _ Q1q.out
     have y9:=Qa KYq.out 9 _ rfl
     have c9':=Qa Q1q.out 9 _ rfl
     have f9:wq.frozen? ⟨w.heap.size+1,9,none⟩=false:=frozen_of_row _ _ _ _ _ Q1q.out
     have y10:=Qa KYq.out 10 _ rfl
     have c10':=Qa Q1q.out 10 _ rfl
     have f10:wq.frozen? ⟨w.heap.size+1,10,none⟩=false:=frozen_of_row _ _ _ _ _ Q1q.out
     have y11:=Qa KYq.out 11 _ rfl
     have c11':=Qa Q1q.out 11 _ rfl
     have f11:wq.frozen? ⟨w.heap.size+1,11,none⟩=false:=frozen_of_row _ _ _ _ _ Q1q.out
     have y12:=Qa KYq.out 12 _ rfl
     have c12':=Qa Q1q.out 12 _ rfl
     have f12:wq.frozen? ⟨w.heap.size+1,12,none⟩=false:=frozen_of_row _ _ _ _ _ Q1q.out
     have y13:=Qa KYq.out 13 _ rfl
     have c13':=Qa Q1q.out 13 _ rfl
     have f13:wq.frozen? ⟨w.heap.size+1,13,none⟩=false:=frozen_of_row _ _ _ _ _ Q1q.out
     obtain ⟨e1,e2,e3,e4⟩:=Zn Q1q.out (.int .i64 pc) (.slice u1 k1 d1) (.slice u2 k2 d2) (.bool last) (.bool redo) (.slice u5 stash.length d5) (.slice u6 k6 d6) (.slice u7 k7 d7) (.slice u8 k8 d8) (.slice u9 k9 d9) (.slice u10 k10 d10) (.slice u11 k11 d11) (.int .i64 loss) (.bool sat)
     have E1:=Lib.hid e1
     have E2:=Lib.hid e2
     have E3:=Lib.hid e3
     have E4:=Lib.hid (e4 w.heap.size w (by omega) BQ.out)
     clear e1 e2 e3 e4
     go_wp2_with fail
     refine bodyPost_ret (results_cell_row rfl _ _ (w.heap.size+1) 32 #[.int .i64 pc,.slice u1 k1 d1,.slice u2 k2 d2,.bool last,.bool redo,.slice u5 stash.length d5,.slice u6 k6 d6,.slice u7 k7 d7,.slice u8 k8 d8,.slice u9 k9 d9,.slice u10 k10 d10,.slice u11 k11 d11,.int .i64 loss,.bool sat] (0,0) _ rfl E1.out Tryz.underlying32 rfl (by kernel_rfl)) rfl ?_
     exact END.out (by unfold Za;show (_ && decide (Qar stash m<0) && _)=false;rw [HR.out,decide_eq_false (show ¬ R<0 by have:=HD.out;omega)];simp) wq HQ.out _ E2.out E3.out E4.out
   ·have g2:((nx:Int) != I)=true:=by simp [hC]
    have g3:((nx:Int) == I)=false:=beq_eq_false_iff_ne.2 hC
    have HCC:=Lib.hid hC
    clear hC
    go_wp2_with fail
    refine HV.out.mono ?_
    rintro e w' ⟨rfl,rfl⟩
    go_upto_region 3 with fail
    clear z2 z3 z5 d1 d2 hw1 hw2 hNn h0n hlo hhi g2 g3
    have y0:=Qa KYq.out 0 _ rfl
    have c0':=Qa Q1q.out 0 _ rfl
    have f0:wq.frozen? ⟨w.heap.size+1,0,none⟩=false:=frozen_of_row _ _ _ _ _ Q1q.out
    have y1:=Qa KYq.out 1 _ rfl
    have c1':=Qa Q1q.out 1 _ rfl
    have f1:wq.frozen? ⟨w.heap.size+1,1,none⟩=false:=frozen_of_row _ _ _ _ _ Q1q.out
    have y2:=Qa KYq.out 2 _ rfl
    have c2':=Qa Q1q.out 2 _ rfl
    have f2:wq.frozen? ⟨w.heap.size+1,2,none⟩=false:=frozen_of_row _ _ _ _ _ Q1q.out
    have y3:=Qa KYq.out 3 _ rfl
    have c3':=Qa Q1q.out 3 _ rfl
    have f3:wq.frozen? ⟨w.heap.size+1,3,none⟩=false:=frozen_of_row _ _ _ _ _ Q1q.out
    have y4:=Qa KYq.out 4 _ rfl
    have c4':=Qa Q1q.out 4 _ rfl
    have f4:wq.frozen? ⟨w.heap.size+1,4,none⟩=false:=frozen_of_row _ _ _ _ _ Q1q.out
    have y5:=Qa KYq.out 5 _ rfl
    have c5':=Qa Q1q.out 5 _ rfl
    have f5:wq.frozen? ⟨w.heap.size+1,5,none⟩=false:=frozen_of_row _ _ _ _ _ Q1q.out
    have y6:=Qa KYq.out 6 _ rfl
    have c6':=Qa Q1q.out 6 _ rfl
    have f6:wq.frozen? ⟨w.heap.size+1,6,none⟩=false:=frozen_of_row _ _ _ _ _ Q1q.out
    have y7:=Qa KYq.out 7 _ rfl
    have c7':=Qa Q1q.out 7 _ rfl
    have f7:wq.frozen? ⟨w.heap.size+1,7,none⟩=false:=frozen_of_row _ _ _ _ _ Q1q.out
    have y8:=Qa KYq.out 8 _ rfl
    have c8':=Qa Q1q.out 8 _ rfl
    have f8:wq.frozen? ⟨w.heap.size+1,8,none⟩=false:=frozen_of_row _ _ _ _ _ Q1q.out
    have y9:=Qa KYq.out 9 _ rfl
    have c9':=Qa Q1q.out 9 _ rfl
    have f9:wq.frozen? ⟨w.heap.size+1,9,none⟩=false:=frozen_of_row _ _ _ _ _ Q1q.out
    have y10:=Qa KYq.out 10 _ rfl
    have c10':=Qa Q1q.out 10 _ rfl
    have f10:wq.frozen? ⟨w.heap.size+1,10,none⟩=false:=frozen_of_row _ _ _ _ _ Q1q.out
    have y11:=Qa KYq.out 11 _ rfl
    have c11':=Qa Q1q.out 11 _ rfl
    have f11:wq.frozen? ⟨w.heap.size+1,11,none⟩=false:=frozen_of_row _ _ _ _ _ Q1q.out
    have y12:=Qa KYq.out 12 _ rfl
    have c12':=Qa Q1q.out 12 _ rfl
    have f12:wq.frozen? ⟨w.heap.size+1,12,none⟩=false:=frozen_of_row _ _ _ _ _ Q1q.out
    have y13:=Qa KYq.out 13 _ rfl
    have c13':=Qa Q1q.out 13 _ rfl
    have f13:wq.frozen? ⟨w.heap.size+1,13,none⟩=false:=frozen_of_row _ _ _ _ _ Q1q.out
    obtain ⟨e1,e2,e3,e4⟩:=Zn Q1q.out (.int .i64 pc) (.slice u1 k1 d1) (.slice u2 k2 d2) (.bool last) (.bool redo) (.slice u5 stash.length d5) (.slice u6 k6 d6) (.slice u7 k7 d7) (.slice u8 k8 d8) (.slice u9 k9 d9) (.slice u10 k10 d10) (.slice u11 k11 d11) (.int .i64 loss) (.bool sat)
    have E1:=Lib.hid e1
    have E2:=Lib.hid e2
    have E3:=Lib.hid e3
    have E4:=Lib.hid (e4 w.heap.size w (by omega) BQ.out)
    clear e1 e2 e3 e4
    go_wp2_with fail
    refine bodyPost_ret (results_cell_row rfl _ _ (w.heap.size+1) 32 #[.int .i64 pc,.slice u1 k1 d1,.slice u2 k2 d2,.bool last,.bool redo,.slice u5 stash.length d5,.slice u6 k6 d6,.slice u7 k7 d7,.slice u8 k8 d8,.slice u9 k9 d9,.slice u10 k10 d10,.slice u11 k11 d11,.int .i64 loss,.bool sat] (0,0) _ rfl E1.out Tryz.underlying32 rfl (by kernel_rfl)) rfl ?_
    exact END.out (by unfold Za;show (_ && decide ((X.length:Int)=(opAt ops 0).2.1) && _ && _)=false;rw [HXL.out,HI0.out,decide_eq_false HCC.out];simp) wq HQ.out _ E2.out E3.out E4.out
end Go.Proofs.YtcooobnaocbdjaaGreatDoor
