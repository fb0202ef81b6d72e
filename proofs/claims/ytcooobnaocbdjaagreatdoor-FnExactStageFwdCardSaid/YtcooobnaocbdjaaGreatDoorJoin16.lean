import Derived.Test.YtcooobnaocbdjaaGreatDoorJoin14
import Derived.Test.YtcooobnaocbdjaaGreatDoorJoin15
import Derived.Lib.QuietBelow
set_option maxRecDepth 100000
set_option maxHeartbeats 6400000
set_option linter.unusedSimpArgs false
set_option linter.unusedVariables false
namespace Go.Proofs.YtcooobnaocbdjaaGreatDoor
open Go.RowKit Go.Sort
theorem Qbl (w:World) (q0:Int) (a0:Option Addr) (n0 c0:Nat) (a1:Option Addr) (n1 c1:Nat) (q3 redo:Bool) (a2:Option Addr) (n2 c2:Nat) (a3:Option Addr) (n3 c3:Nat) (a4:Option Addr) (n4 c4:Nat) (a5:Option Addr) (n5 c5:Nat) (a6:Option Addr) (n6 c6:Nat) (a7:Option Addr) (n7 c7:Nat) (a8:Option Addr) (n8 c8:Nat) (q12:Int) (q13:Bool) :
  Calls Tryz.prog 52 #[.agg #[.int .i64 q0,.slice a0 n0 c0,.slice a1 n1 c1,.bool q3,.bool redo,.slice a2 n2 c2,.slice a3 n3 c3,.slice a4 n4 c4,.slice a5 n5 c5,.slice a6 n6 c6,.slice a7 n7 c7,.slice a8 n8 c8,.int .i64 q12,.bool q13]] w fun e w'=>e = .returned (.agg #[.slice a1 n1 c1])/\Below w.heap.size w w':=by
 have hal:Below w.heap.size w (w.alloc (.cells #[.int .i64 q0,.slice a0 n0 c0,.slice a1 n1 c1,.bool q3,.bool redo,.slice a2 n2 c2,.slice a3 n3 c3,.slice a4 n4 c4,.slice a5 n5 c5,.slice a6 n6 c6,.slice a7 n7 c7,.slice a8 n8 c8,.int .i64 q12,.bool q13] 32 (0,0))):=(Below.refl _ _).alloc (Nat.le_refl _) _
 have hk0:=heap_alloc_new w (.cells #[.int .i64 q0,.slice a0 n0 c0,.slice a1 n1 c1,.bool q3,.bool redo,.slice a2 n2 c2,.slice a3 n3 c3,.slice a4 n4 c4,.slice a5 n5 c5,.slice a6 n6 c6,.slice a7 n7 c7,.slice a8 n8 c8,.int .i64 q12,.bool q13] 32 (0,0))
 have hs0:(w.alloc (.cells #[.int .i64 q0,.slice a0 n0 c0,.slice a1 n1 c1,.bool q3,.bool redo,.slice a2 n2 c2,.slice a3 n3 c3,.slice a4 n4 c4,.slice a5 n5 c5,.slice a6 n6 c6,.slice a7 n7 c7,.slice a8 n8 c8,.int .i64 q12,.bool q13] 32 (0,0))).heap.size=w.heap.size+1:=by simp
 have hal2:=hal.alloc hal.size (.cells #[.slice none 0 0] 92 (0,0))
 have hz:=heap_alloc_new (w.alloc (.cells #[.int .i64 q0,.slice a0 n0 c0,.slice a1 n1 c1,.bool q3,.bool redo,.slice a2 n2 c2,.slice a3 n3 c3,.slice a4 n4 c4,.slice a5 n5 c5,.slice a6 n6 c6,.slice a7 n7 c7,.slice a8 n8 c8,.int .i64 q12,.bool q13] 32 (0,0))) (.cells #[.slice none 0 0] 92 (0,0))
 rw [hs0] at hz
 have hk1:((w.alloc (.cells #[.int .i64 q0,.slice a0 n0 c0,.slice a1 n1 c1,.bool q3,.bool redo,.slice a2 n2 c2,.slice a3 n3 c3,.slice a4 n4 c4,.slice a5 n5 c5,.slice a6 n6 c6,.slice a7 n7 c7,.slice a8 n8 c8,.int .i64 q12,.bool q13] 32 (0,0))).alloc (.cells #[.slice none 0 0] 92 (0,0))).heap[w.heap.size]? = some (.cells #[.int .i64 q0,.slice a0 n0 c0,.slice a1 n1 c1,.bool q3,.bool redo,.slice a2 n2 c2,.slice a3 n3 c3,.slice a4 n4 c4,.slice a5 n5 c5,.slice a6 n6 c6,.slice a7 n7 c7,.slice a8 n8 c8,.int .i64 q12,.bool q13] 32 (0,0)):=by
  rw [Below.heap_alloc _ _ _ (by rw [hs0];omega)]
  exact hk0
 have HA:=Lib.hid hal2
 have K1:=Lib.hid hk1
 have HZ:=Lib.hid hz
 clear hal hal2 hk0 hk1 hz hs0
 go_enter Tryz.func52,Tryz.ntmps52
 go_upto_region 1 with fail
 generalize (w.alloc (.cells #[.int .i64 q0,.slice a0 n0 c0,.slice a1 n1 c1,.bool q3,.bool redo,.slice a2 n2 c2,.slice a3 n3 c3,.slice a4 n4 c4,.slice a5 n5 c5,.slice a6 n6 c6,.slice a7 n7 c7,.slice a8 n8 c8,.int .i64 q12,.bool q13] 32 (0,0))).alloc (.cells #[.slice none 0 0] 92 (0,0))=wa at HA K1 HZ |-
 have z2:=Qa K1.out 2 _ rfl
 have zb:wa.cell? ⟨w.heap.size+1,0,none⟩=some (.slice none 0 0):=Qa HZ.out 0 _ rfl
 have fb:wa.frozen? ⟨w.heap.size+1,0,none⟩=false:=frozen_of_row _ _ _ _ _ HZ.out
 go_wp2_with fail
 refine bodyPost_ret (results_cell_row rfl _ _ (w.heap.size+1) 92 #[.slice a1 n1 c1] (0,0) _ rfl ?_ Tryz.underlying92 rfl (by kernel_rfl)) rfl ?_
 ·simpa using heap_setCell_same wa (w.heap.size+1) 0 _ _ (.slice a1 n1 c1) HZ.out
 exact ⟨rfl,HA.out.setCell (p:=⟨w.heap.size+1,0,none⟩) (by show w.heap.size<=w.heap.size+1;omega) _⟩
theorem Qjc {s:Qq} (h:Qbk (sumS s).1.length (opsS s).length (Qf8 (sumS s).1 (opsS s))=false):Q4 s=false:=by
 by_cases e:(sumS s).1.length=(opsS s).length
 ·unfold Qbk at h
  rw [decide_eq_true e,Bool.true_and] at h
  rw [e] at h
  have h':(List.range (opsS s).length).all (Qcg s)=false:=h
  unfold Q4
  rw [h']
  simp
 ·exact Qek e
theorem Qn7 {s:Qq} (h:Qbk (sumS s).1.length (opsS s).length (Qf8 (sumS s).1 (opsS s))=true):(sumS s).1.length=(opsS s).length /\ ∀ j,j<(opsS s).length->Qcg s j=true:=by
 unfold Qbk at h
 rw [Bool.and_eq_true] at h
 have e:=of_decide_eq_true h.1
 refine ⟨e,fun j hj => ?_⟩
 exact List.all_eq_true.1 h.2 j (List.mem_range.2 (by omega))
theorem Qh0 (w:World) (es:List Value) (s:Qq) (h:Qd.reads (Qf w.heap.size) w es s) (hb:Qd.bulk s<=1048576) :
  Calls Tryz.prog 57 #[.agg es.toArray] w fun e w'=>e = .returned (.bool (Q4 s))/\Below w.heap.size w w':=by
 obtain ⟨a0,n0,c0,a1,n1,c1,a2,n2,c2,a3,n3,c3,a4,n4,c4,a5,n5,c5,a6,n6,c6,a7,n7,c7,a8,n8,c8,rfl,⟨p0,r0,l0⟩,⟨p1,r1,l1⟩,⟨-,-,l2⟩,-,⟨-,-,l4⟩,⟨-,-,l5⟩,⟨-,-,l6⟩,⟨-,-,l7⟩,⟨-,-,l8⟩⟩:=Qn.1 h
 have hbo:(Shape.list shOp).bulk (opsS s)<=1048576:=by rw [Q2] at hb;show (Shape.list shOp).bulk s.2.2.1<=_;omega
 have hbg:(Shape.list Qi).bulk (sumS s).1<=1048576:=by rw [Q2] at hb;show (Shape.list Qi).bulk s.2.2.2.2.2.2.2.2.2.2.2.1<=_;omega
 rw [Q2,Qdm,Qh shOp l1,Qh Qc l2,Qh Qi l8,Ql,Ql,Ql,Ql,l0.1,l4.1,l5.1,l6.1,l7.1] at hb
 obtain ⟨R,hR⟩ : ∃ R,Q4 s=R:=⟨_,rfl⟩
 rw [hR]
 obtain ⟨q0,hq0⟩ : ∃ q,s.1=q:=⟨_,rfl⟩
 obtain ⟨q3,hq3⟩ : ∃ q,s.2.2.2.1=q:=⟨_,rfl⟩
 obtain ⟨redo,hq4⟩ : ∃ q,s.2.2.2.2.1=q:=⟨_,rfl⟩
 obtain ⟨q12,hq12⟩ : ∃ q,s.2.2.2.2.2.2.2.2.2.2.2.2.1=q:=⟨_,rfl⟩
 obtain ⟨q13,hq13⟩ : ∃ q,s.2.2.2.2.2.2.2.2.2.2.2.2.2=q:=⟨_,rfl⟩
 rw [hq0,hq3,hq4,hq12,hq13]
 have hal:Below w.heap.size w (w.alloc (.cells #[.int .i64 q0,.slice a0 n0 c0,.slice a1 n1 c1,.bool q3,.bool redo,.slice a2 n2 c2,.slice a3 n3 c3,.slice a4 n4 c4,.slice a5 n5 c5,.slice a6 n6 c6,.slice a7 n7 c7,.slice a8 n8 c8,.int .i64 q12,.bool q13] 32 (0,0))):=(Below.refl _ _).alloc (Nat.le_refl _) _
 have hk0:=heap_alloc_new w (.cells #[.int .i64 q0,.slice a0 n0 c0,.slice a1 n1 c1,.bool q3,.bool redo,.slice a2 n2 c2,.slice a3 n3 c3,.slice a4 n4 c4,.slice a5 n5 c5,.slice a6 n6 c6,.slice a7 n7 c7,.slice a8 n8 c8,.int .i64 q12,.bool q13] 32 (0,0))
 have hn0:n0<=1048576:=by omega
 have hn1:n1<=1048576:=by omega
 have hn2:n2<=1048576:=by omega
 have hn4:n4<=1048576:=by omega
 have hn5:n5<=1048576:=by omega
 have hn6:n6<=1048576:=by omega
 have hn7:n7<=1048576:=by omega
 have hn8:n8<=1048576:=by omega
 have HBS:Hid (Shape.sum Qc.bulk (Zc s)<=1048576):=Lib.hid (by show Shape.sum Qc.bulk s.2.2.2.2.2.1<=_;omega)
 have HHX:=Lib.hid fun (wx:World) (hx:Below w.heap.size w wx) (N:Int)=>(Qbd wx a4 n4 c4 (xS s) N (((l4.ints hn4).below hx (Nat.le_refl _)).le hx.size)).mono (fun e w' (h:e = .returned (.bool (Qae (xS s) N))/\wx=w')=>(show e = .returned (.bool (Qae (xS s) N))/\Below wx.heap.size wx w' from ⟨h.1,h.2 ▸ Below.refl _ _⟩))
 have HHY:=Lib.hid fun (wx:World) (hx:Below w.heap.size w wx) (N:Int)=>(Qbd wx a5 n5 c5 (yS s) N (((l5.ints hn5).below hx (Nat.le_refl _)).le hx.size)).mono (fun e w' (h:e = .returned (.bool (Qae (yS s) N))/\wx=w')=>(show e = .returned (.bool (Qae (yS s) N))/\Below wx.heap.size wx w' from ⟨h.1,h.2 ▸ Below.refl _ _⟩))
 have HHG:=Lib.hid fun (wx:World) (hx:Below w.heap.size w wx) (N:Int)=>(Qbd wx a6 n6 c6 (gS s) N (((l6.ints hn6).below hx (Nat.le_refl _)).le hx.size)).mono (fun e w' (h:e = .returned (.bool (Qae (gS s) N))/\wx=w')=>(show e = .returned (.bool (Qae (gS s) N))/\Below wx.heap.size wx w' from ⟨h.1,h.2 ▸ Below.refl _ _⟩))
 have HHD:=Lib.hid fun (wx:World) (hx:Below w.heap.size w wx) (N:Int)=>(Qbd wx a7 n7 c7 (dS s) N (((l7.ints hn7).below hx (Nat.le_refl _)).le hx.size)).mono (fun e w' (h:e = .returned (.bool (Qae (dS s) N))/\wx=w')=>(show e = .returned (.bool (Qae (dS s) N))/\Below wx.heap.size wx w' from ⟨h.1,h.2 ▸ Below.refl _ _⟩))
 have L0:Hid ((Qfg s).length=n0):=Lib.hid l0.1
 have L1:Hid (Qb shOp (Qf w.heap.size) w a1 n1 (opsS s)):=Lib.hid l1
 have L2:Hid (Qb Qc (Qf w.heap.size) w a2 n2 (Zc s)):=Lib.hid l2
 have L8:Hid (Qb Qi (Qf w.heap.size) w a8 n8 (sumS s).1):=Lib.hid l8
 have HR:=Lib.hid hR
 have HQ0:Hid (pcS s=q0):=Lib.hid hq0
 have HQ4:Hid (Qb3 s=redo):=Lib.hid hq4
 have HA:=Lib.hid hal
 have K0:=Lib.hid hk0
 obtain ⟨p,hp⟩ : ∃ p,Qt (opsS s)=p:=⟨_,rfl⟩
 have HP:=Lib.hid hp
 have HBOL:=Lib.hid hbo
 have HBG:=Lib.hid hbg
 have HPR:=Lib.hid (And.intro p1 r1)
 clear hR hq0 hq3 hq4 hq12 hq13 hal hk0 h l0 l1 l2 l4 l5 l6 l7 l8 hb hp hbo hbg p1 r1 p0 r0
 go_enter Tryz.func57,Tryz.ntmps57
 go_upto_region 1 with fail
 generalize w.alloc (.cells #[.int .i64 q0,.slice a0 n0 c0,.slice a1 n1 c1,.bool q3,.bool redo,.slice a2 n2 c2,.slice a3 n3 c3,.slice a4 n4 c4,.slice a5 n5 c5,.slice a6 n6 c6,.slice a7 n7 c7,.slice a8 n8 c8,.int .i64 q12,.bool q13] 32 (0,0))=wa at HA K0 |-
 have CELLS:=Lib.hid fun (wx:World) (hx:Below wa.heap.size wa wx)=>(show wx.heap[w.heap.size]? = _ from (hx.block _ (Array.getElem?_eq_some_iff.1 K0.out).1).trans K0.out)
 have z0:=Qa K0.out 0 _ rfl
 have z1:=Qa K0.out 1 _ rfl
 have z2:=Qa K0.out 2 _ rfl
 have z3:=Qa K0.out 3 _ rfl
 have z4:=Qa K0.out 4 _ rfl
 have z5:=Qa K0.out 5 _ rfl
 have z6:=Qa K0.out 6 _ rfl
 have z7:=Qa K0.out 7 _ rfl
 have z8:=Qa K0.out 8 _ rfl
 have z9:=Qa K0.out 9 _ rfl
 have z10:=Qa K0.out 10 _ rfl
 have z11:=Qa K0.out 11 _ rfl
 have z12:=Qa K0.out 12 _ rfl
 have z13:=Qa K0.out 13 _ rfl
 go_wp2_with fail
 refine (Qbl wa q0 a0 n0 c0 a1 n1 c1 q3 redo a2 n2 c2 a3 n3 c3 a4 n4 c4 a5 n5 c5 a6 n6 c6 a7 n7 c7 a8 n8 c8 q12 q13).mono ?_
 rintro e w1 ⟨rfl,hb1⟩
 have HB1:=Lib.hid hb1
 clear hb1 z0 z1 z2 z3 z4 z5 z6 z7 z8 z9 z10 z11 z12 z13
 go_wp2_with fail
 refine (Qb5 w1 a1 n1 c1 (opsS s) ((L1.out.below (HA.out.trans (HB1.out.mono HA.out.size)) (Nat.le_refl _)).le (Nat.le_trans HA.out.size HB1.out.size)) HPR.out.1 HPR.out.2 HBOL.out).mono ?_
 rintro e w2 ⟨am,nm,cm,rfl,hlm,gm1,gm2,hb2⟩
 have hbb:=HB1.out.trans (hb2.mono HB1.out.size)
 have hal2:=hbb.alloc hbb.size (.cells #[.slice am nm cm] 197 (0,0))
 have hbk:=heap_alloc_new w2 (.cells #[.slice am nm cm] 197 (0,0))
 have hlm2:=hlm.below (hb2.alloc hb2.size (.cells #[.slice am nm cm] 197 (0,0))) (Nat.le_refl _)
 have hnm:=Qq7 (opsS s)
 rw [hlm.1,HP.out] at hnm
 have HNM:=Lib.hid hnm
 have HLM:=Lib.hid hlm2
 have HBA:=Lib.hid hal2
 have HBM:=Lib.hid hbk
 have hs3:w2.heap.size<(w2.alloc (.cells #[.slice am nm cm] 197 (0,0))).heap.size:=by simp
 have HS3:=Lib.hid hs3
 have HW12:=Lib.hid hb2.size
 clear hlm hlm2 hnm gm1 gm2 hb2 hbb hal2 hbk hs3
 go_upto_region 2 with fail
 generalize w2.alloc (.cells #[.slice am nm cm] 197 (0,0))=wm at HLM HBA HBM HS3 |-
 have MODEL:=Lib.hid fun (wx:World) (hx:Below wm.heap.size wm wx)=>(show wx.heap[w2.heap.size]? = _ from (hx.block _ HS3.out).trans HBM.out)
 have y0:=Qa HBM.out 0 _ rfl
 have HOK:=Lib.hid (Qps wm am nm cm)
 rw [HNM.out] at HOK
 cases p
 ·obtain rfl:R=false:=by rw [<- HR.out];exact Qaj HP.out
  go_wp2_with fail
  refine HOK.out.mono ?_
  rintro e w3 ⟨rfl,hb⟩
  have HF:=Lib.hid (HA.out.trans ((HBA.out.trans (hb.mono HBA.out.size)).mono HA.out.size))
  clear hb y0
  go_wp2_with fail
  go_ret
  exact ⟨rfl,HF.out⟩
 ·go_wp2_with fail
  refine HOK.out.mono ?_
  rintro e w3 ⟨rfl,hb⟩
  have HB3:=Lib.hid hb
  have HB3A:=Lib.hid (HBA.out.trans (hb.mono HBA.out.size))
  have HF3:=Lib.hid (HA.out.trans (HB3A.out.mono HA.out.size))
  clear hb y0
  have z0:=Qa (CELLS.out w3 HB3A.out) 0 _ rfl
  by_cases hq:q0<0
  ·have g0:decide (q0<0)=true:=decide_eq_true hq
   obtain rfl:R=false:=by rw [<- HR.out];exact Qd7 (by rw [L0.out,HQ0.out];exact Qcz (.inl hq))
   go_wp2_with fail
   go_ret
   exact ⟨rfl,HF3.out⟩
  ·have g0:decide (q0<0)=false:=decide_eq_false hq
   have z1:=Qa (CELLS.out w3 HB3A.out) 1 _ rfl
   by_cases hg:q0>(n0:Int)
   ·have g1:decide (q0>(n0:Int))=true:=decide_eq_true hg
    have g2:(n0:Int)<q0:=hg
    obtain rfl:R=false:=by rw [<- HR.out];exact Qd7 (by rw [L0.out,HQ0.out];exact Qcz (.inr hg))
    go_wp2_with fail
    go_ret
    exact ⟨rfl,HF3.out⟩
   ·have g1:decide (q0>(n0:Int))=false:=decide_eq_false hg
    have g2 : ¬ (n0:Int)<q0:=hg
    have hmm:Qcx (opsS s)=opsS s:=Qao HP.out
    have hnm:nm=n1:=by have h1:=HLM.out.1;have h2:=L1.out.1;rw [hmm,h2] at h1;exact h1.symm
    subst hnm
    have hlm:=HLM.out
    rw [hmm] at hlm
    obtain ⟨-,hlo,hhi⟩:=Z4 HP.out
    rw [L1.out.1] at hlo hhi
    have y0:=Qa (MODEL.out w3 HB3.out) 0 _ rfl
    have z11:=Qa (CELLS.out w3 HB3A.out) 11 _ rfl
    have z12:=Qa (CELLS.out w3 HB3A.out) 12 _ rfl
    have z13:=Qa (CELLS.out w3 HB3A.out) 13 _ rfl
    have hw1m:w1.heap.size<=wm.heap.size:=Nat.le_trans (Nat.le_trans (Nat.le_refl _) (Nat.le_refl _)) (by have:=HS3.out;have:=HW12.out;omega)
    have hlm3:=(hlm.below HB3.out hw1m).le (Nat.le_trans hw1m HB3.out.size)
    have HSF:=Lib.hid (Qhw w3 a8 n8 c8 (sumS s).1 q12 q13 ((L8.out.below HF3.out (Nat.le_refl _)).le HF3.out.size) HBG.out am nm cm (opsS s) hlm3 (by omega))
    have HLM3:=Lib.hid hlm3
    obtain ⟨r,hr⟩ : ∃ r,Qbk (sumS s).1.length (opsS s).length (Qf8 (sumS s).1 (opsS s))=r:=⟨_,rfl⟩
    rw [hr] at HSF
    have HRR:=Lib.hid hr
    clear hmm hlm hlm3 hr
    cases r
    ·obtain rfl:R=false:=by rw [<- HR.out];exact Qjc HRR.out
     go_wp2_with fail
     refine HSF.out.mono ?_
     rintro e w4 ⟨rfl,hb⟩
     have HF4:=Lib.hid (HF3.out.trans (hb.mono HF3.out.size))
     clear hb z0 z1 z11 z12 z13 y0
     go_wp2_with fail
     go_ret
     exact ⟨rfl,HF4.out⟩
    ·go_wp2_with fail
     refine HSF.out.mono ?_
     rintro e w4 ⟨rfl,hb⟩
     have HB4A:=Lib.hid (HB3A.out.trans (hb.mono HB3A.out.size))
     have HB4:=Lib.hid (HB3.out.trans (hb.mono HB3.out.size))
     have HX34:=Lib.hid hb
     have HF4:=Lib.hid (HF3.out.trans (hb.mono HF3.out.size))
     clear hb z0 z1 z11 z12 z13 y0
     have x0:=Qa (CELLS.out w4 HB4A.out) 0 _ rfl
     have x1:=Qa (CELLS.out w4 HB4A.out) 1 _ rfl
     have x2:=Qa (CELLS.out w4 HB4A.out) 2 _ rfl
     have x3:=Qa (CELLS.out w4 HB4A.out) 3 _ rfl
     have x4:=Qa (CELLS.out w4 HB4A.out) 4 _ rfl
     have x5:=Qa (CELLS.out w4 HB4A.out) 5 _ rfl
     have x6:=Qa (CELLS.out w4 HB4A.out) 6 _ rfl
     have x7:=Qa (CELLS.out w4 HB4A.out) 7 _ rfl
     have x8:=Qa (CELLS.out w4 HB4A.out) 8 _ rfl
     have x9:=Qa (CELLS.out w4 HB4A.out) 9 _ rfl
     have x10:=Qa (CELLS.out w4 HB4A.out) 10 _ rfl
     have x11:=Qa (CELLS.out w4 HB4A.out) 11 _ rfl
     have x12:=Qa (CELLS.out w4 HB4A.out) 12 _ rfl
     have x13:=Qa (CELLS.out w4 HB4A.out) 13 _ rfl
     go_wp2_with fail
     refine (Qeu w4 redo q0 a0 n0 c0 a1 nm c1 q3 a2 n2 c2 a3 n3 c3 a4 n4 c4 a5 n5 c5 a6 n6 c6 a7 n7 c7 a8 n8 c8 q12 q13 (opsS s) ((L1.out.below HF4.out (Nat.le_refl _)).le HF4.out.size) (by omega)).mono ?_
     rintro e w5 ⟨aS,nS,cS,rfl,hnS,hIS,hb⟩
     have HB5A:=Lib.hid (HB4A.out.trans (hb.mono HB4A.out.size))
     have HB5:=Lib.hid (HB4.out.trans (hb.mono HB4.out.size))
     have HF5:=Lib.hid (HF4.out.trans (hb.mono HF4.out.size))
     have HX3:=Lib.hid (HX34.out.trans (hb.mono HX34.out.size))
     have HIS:=Lib.hid hIS
     clear hb hIS x0 x1 x2 x3 x4 x5 x6 x7 x8 x9 x10 x11 x12 x13
     have v5:=Qa (CELLS.out w5 HB5A.out) 5 _ rfl
     go_wp2_with fail
     clear v5 g0 g1 g2
     go_loopw [39] (fun i wr => ∃ k:Nat,k<=n2/\i = .int .i64 k/\Hid (∀ (j:Nat) (y:Qx),j<k->(Zc s)[j]? = some y->J5 redo (opsS s) y=true)/\Below w5.heap.size w5 wr) (fun i _=>n2-(intOf i).toNat)
     case atStart=>exact ⟨0,Nat.zero_le _,rfl,Lib.hid fun j y hj=>absurd hj (Nat.not_lt_zero _),Below.refl _ _⟩
     case round =>
      obtain ⟨k,hk,rfl,hall,hbw⟩:=hrel
      have HBW:=Lib.hid hbw
      have HFW:=Lib.hid (HF5.out.trans (hbw.mono HF5.out.size))
      clear hbw
      by_cases hlt:k<n2
      ·obtain ⟨b,o,x,ax,nx,cx,hx,rfl,hbB,hc0,hc1,-,-,hlx⟩:=Qcq L2.out k hlt
       have hbx:=Qz Qc.bulk (Zc s) k x hx
       rw [Zi] at hbx
       have hbr:(Shape.list Qi).bulk x.2<=1048576:=by have:=HBS.out;omega
       have e0:=(HFW.out.cell (p:=⟨b,o+k*2,none⟩) hbB).trans hc0
       have e1:=(HFW.out.cell (p:=⟨b,o+k*2+1,none⟩) hbB).trans hc1
       have hal:=(Below.refl wr.heap.size wr).alloc (Nat.le_refl _) (.cells #[.int .i64 x.1,.slice ax nx cx] 46 (0,0))
       have hbk:=heap_alloc_new wr (.cells #[.int .i64 x.1,.slice ax nx cx] 46 (0,0))
       have hwn:=HFW.out.trans (hal.mono HFW.out.size)
       have hrf:=Qhx (wr.alloc (.cells #[.int .i64 x.1,.slice ax nx cx] 46 (0,0))) ax nx cx x.2 ((hlx.below hwn (Nat.le_refl _)).le hwn.size) hbr aS nS cS (Jm redo (opsS s)) ((HIS.out.below (HBW.out.trans (hal.mono HBW.out.size)) (Nat.le_refl _)).le (Nat.le_trans HBW.out.size hal.size)) (by omega)
       rw [Qmm redo (opsS s) (by rw [L1.out.1];omega) x] at hrf
       obtain ⟨M,hM⟩ : ∃ M,x.1=M:=⟨_,rfl⟩
       obtain ⟨v,hv⟩ : ∃ v,J5 redo (opsS s) x=v:=⟨_,rfl⟩
       rw [hM] at e0 hal hbk hrf
       rw [hv] at hrf
       have HX:=Lib.hid hx
       have HV:=Lib.hid hv
       have HRF:=Lib.hid hrf
       have HAL:=Lib.hid hal
       have HBK:=Lib.hid hbk
       clear hx hlx hc0 hc1 hbx hbr hwn hrf hM hv hal hbk
       go_upto_region 8 with fail
       clear e0 e1
       generalize wr.alloc (.cells #[.int .i64 M,.slice ax nx cx] 46 (0,0))=wb at HRF HAL HBK |-
       have t1:=Qa HBK.out 1 _ rfl
       cases v
       ·obtain rfl:R=false:=by rw [<- HR.out];exact Qdp HX.out (by rw [HQ4.out];exact HV.out)
        go_wp2_with fail
        refine HRF.out.mono ?_
        rintro e w6 ⟨rfl,hb⟩
        have HFF:=Lib.hid (HFW.out.trans ((HAL.out.trans (hb.mono HAL.out.size)).mono HFW.out.size))
        clear hb t1
        go_wp2_with fail
        go_ret
        exact ⟨rfl,HFF.out⟩
       ·go_wp2_with fail
        refine HRF.out.mono ?_
        rintro e w6 ⟨rfl,hb⟩
        have HB6:=Lib.hid (HBW.out.trans ((HAL.out.trans (hb.mono HAL.out.size)).mono HBW.out.size))
        clear hb t1
        go_wp2_with fail
        go_roundw
        case rel =>
         refine ⟨k+1,by omega,by go_num,Lib.hid fun j y hj hy => ?_,HB6.out⟩
         by_cases e:j=k
         ·subst e
          rw [HX.out] at hy
          cases hy
          exact HV.out
         ·exact hall.out j y (by omega) hy
        case measure=>simp [intOf];omega
      ·obtain rfl:k=n2:=by omega
       have h5 : ∀ (j:Nat) (y:Qx),(Zc s)[j]? = some y->J5 (Qb3 s) (opsS s) y=true:=fun j y hy=>by
        rw [HQ4.out]
        exact hall.out j y (by rw [<- L2.out.1];exact (List.getElem?_eq_some_iff.1 hy).1) hy
       have hrr:R=Qgz s:=by
        rw [<- HR.out]
        exact Qdq HP.out (by rw [L0.out,HQ0.out];exact Qbh (by omega) (by omega)) (Qn7 HRR.out).1 (Qn7 HRR.out).2 h5
       unfold Qgz at hrr
       have hII:inG (opsS s)=Qca (opsS s):=by rw [<- Qlb,Qao HP.out]
       have hOO:outG (opsS s)=Qa6 (opsS s):=by rw [<- Qi7,Qao HP.out]
       obtain ⟨I,hI⟩ : ∃ I,Qca (opsS s)=I:=⟨_,rfl⟩
       obtain ⟨O,hO⟩ : ∃ O,Qa6 (opsS s)=O:=⟨_,rfl⟩
       rw [hI] at hrr hII
       rw [hO] at hrr hOO
       obtain ⟨b1,hb1⟩ : ∃ b,Qae (xS s) I=b:=⟨_,rfl⟩
       obtain ⟨b2,hb2⟩ : ∃ b,Qae (yS s) O=b:=⟨_,rfl⟩
       obtain ⟨b3,hb3⟩ : ∃ b,Qae (gS s) O=b:=⟨_,rfl⟩
       obtain ⟨b4,hb4⟩ : ∃ b,Qae (dS s) I=b:=⟨_,rfl⟩
       rw [hb1,hb2,hb3,hb4] at hrr
       have hbm:=HB5.out.trans (HBW.out.mono HB5.out.size)
       have hml:=(HLM3.out.below (HX3.out.trans (HBW.out.mono HX3.out.size)) (Nat.le_refl _)).le (Nat.le_trans HX3.out.size HBW.out.size)
       have cX:=fun d os=>Calls.regrown_of (w:=wr) (d:=d) (os:=os) (HHX.out _ (HFW.out.trans ((below_regrown wr d os).mono HFW.out.size)) I)
       have cY:=fun d os=>Calls.regrown_of (w:=wr) (d:=d) (os:=os) (HHY.out _ (HFW.out.trans ((below_regrown wr d os).mono HFW.out.size)) O)
       have cG:=fun d os=>Calls.regrown_of (w:=wr) (d:=d) (os:=os) (HHG.out _ (HFW.out.trans ((below_regrown wr d os).mono HFW.out.size)) O)
       have cD:=fun d os=>Calls.regrown_of (w:=wr) (d:=d) (os:=os) (HHD.out _ (HFW.out.trans ((below_regrown wr d os).mono HFW.out.size)) I)
       have cI:=fun d os=>Calls.regrown_of (w:=wr) (d:=d) (os:=os) ((Qhu (grow (redrawn wr d) os) am nm cm (opsS s) ((hml.below (below_regrown wr d os) (Nat.le_refl _)).le (below_regrown wr d os).size) (by omega)).mono (fun e w' (h:e = .returned (.int .i64 (inG (opsS s)))/\grow (redrawn wr d) os=w')=>(show e = .returned (.int .i64 (inG (opsS s)))/\Below (grow (redrawn wr d) os).heap.size (grow (redrawn wr d) os) w' from ⟨h.1,h.2 ▸ Below.refl _ _⟩)))
       have cO:=fun d os=>Calls.regrown_of (w:=wr) (d:=d) (os:=os) ((Qi6 (grow (redrawn wr d) os) am nm cm (opsS s) ((hml.below (below_regrown wr d os) (Nat.le_refl _)).le (below_regrown wr d os).size) (by omega)).mono (fun e w' (h:e = .returned (.int .i64 (outG (opsS s)))/\grow (redrawn wr d) os=w')=>(show e = .returned (.int .i64 (outG (opsS s)))/\Below (grow (redrawn wr d) os).heap.size (grow (redrawn wr d) os) w' from ⟨h.1,h.2 ▸ Below.refl _ _⟩)))
       simp only [hb1] at cX
       simp only [hb2] at cY
       simp only [hb3] at cG
       simp only [hb4] at cD
       simp only [hII] at cI
       simp only [hOO] at cO
       have CX:=Lib.hid cX
       have CY:=Lib.hid cY
       have CG:=Lib.hid cG
       have CD:=Lib.hid cD
       have CI:=Lib.hid cI
       have CO:=Lib.hid cO
       have HRF:=Lib.hid hrr
       have k7:=cell_regrown (Qa (CELLS.out wr (HB5A.out.trans (HBW.out.mono HB5A.out.size))) 7 _ rfl)
       have k8:=cell_regrown (Qa (CELLS.out wr (HB5A.out.trans (HBW.out.mono HB5A.out.size))) 8 _ rfl)
       have k9:=cell_regrown (Qa (CELLS.out wr (HB5A.out.trans (HBW.out.mono HB5A.out.size))) 9 _ rfl)
       have k10:=cell_regrown (Qa (CELLS.out wr (HB5A.out.trans (HBW.out.mono HB5A.out.size))) 10 _ rfl)
       have ky:=cell_regrown (Qa (MODEL.out wr hbm) 0 _ rfl)
       clear hrr hII hOO hI hO hb1 hb2 hb3 hb4 hbm hml cX cY cG cD cI cO h5 hall
       cases b1
       ·obtain rfl:R=false:=by rw [HRF.out];simp
        go_upto_region 11 with fail
        refine wp_region_quiet_below (by kernel_rfl) (by kernel_rfl) ?_
        repeat (go_big_quiet_step (with_reducible first | exact CI.out _ _ | exact CO.out _ _ | exact CX.out _ _ | exact CD.out _ _ | exact CY.out _ _ | exact CG.out _ _))
        refine wpQuiet_nil ?_
        intro _ hw'
        obtain ⟨⟨dq,osq⟩,hw''⟩:=hw'
        subst hw''
        have hwq:=below_regrown wr dq osq
        generalize grow (redrawn wr dq) osq=wn at hwq |-
        have HFF:=Lib.hid (HFW.out.trans (hwq.mono HFW.out.size))
        clear hwq k7 k8 k9 k10 ky
        go_wp2_with fail
        go_ret
        exact ⟨rfl,HFF.out⟩
       ·cases b4
        ·obtain rfl:R=false:=by rw [HRF.out];simp
         go_upto_region 11 with fail
         refine wp_region_quiet_below (by kernel_rfl) (by kernel_rfl) ?_
         repeat (go_big_quiet_step (with_reducible first | exact CI.out _ _ | exact CO.out _ _ | exact CX.out _ _ | exact CD.out _ _ | exact CY.out _ _ | exact CG.out _ _))
         refine wpQuiet_nil ?_
         intro _ hw'
         obtain ⟨⟨dq,osq⟩,hw''⟩:=hw'
         subst hw''
         have hwq:=below_regrown wr dq osq
         generalize grow (redrawn wr dq) osq=wn at hwq |-
         have HFF:=Lib.hid (HFW.out.trans (hwq.mono HFW.out.size))
         clear hwq k7 k8 k9 k10 ky
         go_wp2_with fail
         go_ret
         exact ⟨rfl,HFF.out⟩
        ·cases b2
         ·obtain rfl:R=false:=by rw [HRF.out];simp
          go_upto_region 11 with fail
          refine wp_region_quiet_below (by kernel_rfl) (by kernel_rfl) ?_
          repeat (go_big_quiet_step (with_reducible first | exact CI.out _ _ | exact CO.out _ _ | exact CX.out _ _ | exact CD.out _ _ | exact CY.out _ _ | exact CG.out _ _))
          refine wpQuiet_nil ?_
          intro _ hw'
          obtain ⟨⟨dq,osq⟩,hw''⟩:=hw'
          subst hw''
          have hwq:=below_regrown wr dq osq
          generalize grow (redrawn wr dq) osq=wn at hwq |-
          have HFF:=Lib.hid (HFW.out.trans (hwq.mono HFW.out.size))
          clear hwq k7 k8 k9 k10 ky
          go_wp2_with fail
          go_ret
          exact ⟨rfl,HFF.out⟩
         ·cases b3
          ·obtain rfl:R=false:=by rw [HRF.out];simp
           go_upto_region 11 with fail
           refine wp_region_quiet_below (by kernel_rfl) (by kernel_rfl) ?_
           repeat (go_big_quiet_step (with_reducible first | exact CI.out _ _ | exact CO.out _ _ | exact CX.out _ _ | exact CD.out _ _ | exact CY.out _ _ | exact CG.out _ _))
           refine wpQuiet_nil ?_
           intro _ hw'
           obtain ⟨⟨dq,osq⟩,hw''⟩:=hw'
           subst hw''
           have hwq:=below_regrown wr dq osq
           generalize grow (redrawn wr dq) osq=wn at hwq |-
           have HFF:=Lib.hid (HFW.out.trans (hwq.mono HFW.out.size))
           clear hwq k7 k8 k9 k10 ky
           go_wp2_with fail
           go_ret
           exact ⟨rfl,HFF.out⟩
          ·obtain rfl:R=true:=by rw [HRF.out];simp
           go_upto_region 11 with fail
           refine wp_region_quiet_below (by kernel_rfl) (by kernel_rfl) ?_
           repeat (go_big_quiet_step (with_reducible first | exact CI.out _ _ | exact CO.out _ _ | exact CX.out _ _ | exact CD.out _ _ | exact CY.out _ _ | exact CG.out _ _))
           refine wpQuiet_nil ?_
           intro _ hw'
           obtain ⟨⟨dq,osq⟩,hw''⟩:=hw'
           subst hw''
           have hwq:=below_regrown wr dq osq
           generalize grow (redrawn wr dq) osq=wn at hwq |-
           have HFF:=Lib.hid (HFW.out.trans (hwq.mono HFW.out.size))
           clear hwq k7 k8 k9 k10 ky
           go_wp2_with fail
           go_ret
           exact ⟨rfl,HFF.out⟩
end Go.Proofs.YtcooobnaocbdjaaGreatDoor
