import Derived.Test.YtcooobnaocbdjaaGreatDoorJoin16
import Derived.Test.YtcooobnaocbdjaaGreatDoorJoin17
import Derived.Lib.QuietBelow
import Derived.Test.YtcooobnaocbdjaaGreatDoorProg
import Derived.Test.YtcooobnaocbdjaaGreatDoorJoin1
import Derived.Lib.Hide
import Derived.WalkSpells
import Derived.WalkLawsBesides
import Derived.Deep.QuietTactic
import Derived.BigQuiet
import Derived.Outline
/-! YtcooobnaocbdjaaGreatDoorPStgV -/
section
set_option maxRecDepth 100000
set_option maxHeartbeats 6400000
set_option linter.unusedSimpArgs false
set_option linter.unusedVariables false
namespace Go.Proofs.YtcooobnaocbdjaaGreatDoor
open Go.RowKit Go.Sort
def Qg1 (s:Qq) (m:Int) (x t:List Int):Bool:=
 Q4 s && decide (Qar (Zc s) m<0) && Qcy x (Qca (opsS s)) && (!Qbt s || Qcy t (Qa6 (opsS s)))
theorem Qjf (s:Qq) (m:Int) (x t:List Int):Za s m x t=Qg1 s m x t:=by
 unfold Za Qg1
 cases h:Q4 s with
 | false=>simp
 | true =>
  have hm:Qt (opsS s)=true:=by
   cases e:Qt (opsS s) with
   | true=>rfl
   | false=>rw [Qaj e] at h;cases h
  unfold Qcy Qca Qa6
  rw [if_pos hm,if_pos hm]
  generalize decide ((x.length:Int)=(opAt (opsS s) 0).2.1)=b1
  generalize decide ((t.length:Int)=(opAt (opsS s) ((opsS s).length-1)).2.2.1)=b2
  generalize decide (Qar (Zc s) m<0)=b3
  generalize Qm x=b4
  generalize Qm t=b5
  generalize Qbt s=b6
  cases b1 <;> cases b2 <;> cases b3 <;> cases b4 <;> cases b5 <;> cases b6 <;> rfl
theorem Qkm (w:World) (es:List Value) (s:Qq) (h:Qd.reads (Qf w.heap.size) w es s) (hb:Qd.bulk s<=1048576) (hwd:Qkl (Zc s)) (m:Int) (h64:In64 m) (ax:Option Addr) (nx cx:Nat) (X:List Int) (hx:IntsIn w.heap.size w ax nx X)
  (at':Option Addr) (nt ct:Nat) (Y:List Int) (ht:IntsIn w.heap.size w at' nt Y) :
  Calls Tryz.prog 50 #[.agg es.toArray,.int .i64 m,.slice ax nx cx,.slice at' nt ct] w fun e w'=>e = .returned (.bool (Qg1 s m X Y))/\Below w.heap.size w w':=by
 obtain ⟨a0,n0,c0,a1,n1,c1,a2,n2,c2,a3,n3,c3,a4,n4,c4,a5,n5,c5,a6,n6,c6,a7,n7,c7,a8,n8,c8,rfl,⟨p0,r0,l0⟩,⟨p1,r1,l1⟩,⟨p2,r2,l2⟩,-,-,-,-,-,-⟩:=Qn.1 h
 have hbo:Qa3.bulk (opsS s)<=1048576:=by rw [Q2] at hb;rw [Qei];show (Shape.list shOp).bulk s.2.2.1<=_;omega
 have hbs:(Shape.list Qc).bulk (Zc s)<=1048576:=by rw [Q2] at hb;show (Shape.list Qc).bulk s.2.2.2.2.2.1<=_;omega
 obtain ⟨R,hR⟩ : ∃ R,Qg1 s m X Y=R:=⟨_,rfl⟩
 rw [hR]
 obtain ⟨q0,hq0⟩ : ∃ q,s.1=q:=⟨_,rfl⟩
 obtain ⟨q3,hq3⟩ : ∃ q,s.2.2.2.1=q:=⟨_,rfl⟩
 obtain ⟨q4,hq4⟩ : ∃ q,s.2.2.2.2.1=q:=⟨_,rfl⟩
 obtain ⟨q12,hq12⟩ : ∃ q,s.2.2.2.2.2.2.2.2.2.2.2.2.1=q:=⟨_,rfl⟩
 obtain ⟨q13,hq13⟩ : ∃ q,s.2.2.2.2.2.2.2.2.2.2.2.2.2=q:=⟨_,rfl⟩
 rw [hq0,hq3,hq4,hq12,hq13] at h |-
 have hal:Below w.heap.size w (w.alloc (.cells #[.int .i64 q0,.slice a0 n0 c0,.slice a1 n1 c1,.bool q3,.bool q4,.slice a2 n2 c2,.slice a3 n3 c3,.slice a4 n4 c4,.slice a5 n5 c5,.slice a6 n6 c6,.slice a7 n7 c7,.slice a8 n8 c8,.int .i64 q12,.bool q13] 32 (0,0))):=(Below.refl _ _).alloc (Nat.le_refl _) _
 have hk0:=heap_alloc_new w (.cells #[.int .i64 q0,.slice a0 n0 c0,.slice a1 n1 c1,.bool q3,.bool q4,.slice a2 n2 c2,.slice a3 n3 c3,.slice a4 n4 c4,.slice a5 n5 c5,.slice a6 n6 c6,.slice a7 n7 c7,.slice a8 n8 c8,.int .i64 q12,.bool q13] 32 (0,0))
 unfold Qg1 at hR
 rw [show Qbt s=q3 from hq3] at hR
 obtain ⟨I,hI⟩ : ∃ I,Qca (opsS s)=I:=⟨_,rfl⟩
 obtain ⟨O,hO⟩ : ∃ O,Qa6 (opsS s)=O:=⟨_,rfl⟩
 obtain ⟨p,hp⟩ : ∃ p,Q4 s=p:=⟨_,rfl⟩
 obtain ⟨F,hF⟩ : ∃ F,Qar (Zc s) m=F:=⟨_,rfl⟩
 obtain ⟨b1,hb1⟩ : ∃ b,Qcy X I=b:=⟨_,rfl⟩
 obtain ⟨b2,hb2⟩ : ∃ b,Qcy Y O=b:=⟨_,rfl⟩
 rw [hI,hO,hp,hF,hb1,hb2] at hR
 have HH:=fun (wx:World) (hx:Below w.heap.size w wx)=>Shape.le _ (Shape.below _ h hx (Nat.le_refl _)) hx.size
 have HRR:=Lib.hid hR.symm
 have HA:=Lib.hid hal
 have K0:=Lib.hid hk0
 have cK:=fun (wa:World) (ha:Below w.heap.size w wa)=>(Qh0 wa _ s (HH wa ha) hb)
 have cF:=fun (wa:World) (ha:Below w.heap.size w wa)=>(Qfo wa a2 n2 c2 (Zc s) ((Qb.below l2 ha (Nat.le_refl _)).le ha.size) p2 r2 hbs hwd m h64)
 have cM:=fun (wa:World) (ha:Below w.heap.size w wa)=>(Qbl wa q0 a0 n0 c0 a1 n1 c1 q3 q4 a2 n2 c2 a3 n3 c3 a4 n4 c4 a5 n5 c5 a6 n6 c6 a7 n7 c7 a8 n8 c8 q12 q13)
 have cI:=fun (wa:World) (ha:Below w.heap.size w wa)=>(Qg0 wa [.slice a1 n1 c1] (opsS s) (Ji.2 ⟨a1,n1,c1,rfl,p1,r1,(Qb.below l1 ha (Nat.le_refl _)).le ha.size⟩) hbo)
 have cO:=fun (wa:World) (ha:Below w.heap.size w wa)=>(Qki wa [.slice a1 n1 c1] (opsS s) (Ji.2 ⟨a1,n1,c1,rfl,p1,r1,(Qb.below l1 ha (Nat.le_refl _)).le ha.size⟩) hbo)
 have pure' : ∀ (wx:World) (v:Value) (e:Ending) (w':World),(e = .returned v/\wx=w')->(e = .returned v/\Below wx.heap.size wx w'):=fun wx v e w' h=>⟨h.1,h.2 ▸ Below.refl _ _⟩
 have cX:=fun (wa:World) (ha:Below w.heap.size w wa)=>((Qcu wa ax nx cx X I ((hx.below ha (Nat.le_refl _)).le ha.size)).mono (pure' _ _))
 have cY:=fun (wa:World) (ha:Below w.heap.size w wa)=>((Qcu wa at' nt ct Y O ((ht.below ha (Nat.le_refl _)).le ha.size)).mono (pure' _ _))
 simp only [hp] at cK
 simp only [hF] at cF
 simp only [hI] at cI
 simp only [hO] at cO
 simp only [hb1] at cX
 simp only [hb2] at cY
 have CK:=Lib.hid cK
 have CF:=Lib.hid cF
 have CM:=Lib.hid cM
 have CI:=Lib.hid cI
 have CO:=Lib.hid cO
 have CX:=Lib.hid cX
 have CY:=Lib.hid cY
 clear hR hq0 hq3 hq4 hq12 hq13 hal hk0 h l0 l1 l2 hb hbo hbs p0 r0 p1 r1 p2 r2 hp hF hI hO hb1 hb2 HH cK cF cM cI cO cX cY pure' hx ht hwd h64
 go_enter Tryz.func50,Tryz.ntmps50
 go_upto_region 1 with fail
 generalize w.alloc (.cells #[.int .i64 q0,.slice a0 n0 c0,.slice a1 n1 c1,.bool q3,.bool q4,.slice a2 n2 c2,.slice a3 n3 c3,.slice a4 n4 c4,.slice a5 n5 c5,.slice a6 n6 c6,.slice a7 n7 c7,.slice a8 n8 c8,.int .i64 q12,.bool q13] 32 (0,0))=wa at HA K0 |-
 obtain ⟨w0,hw0⟩ : ∃ w0,w0=wa:=⟨wa,rfl⟩
 subst hw0
 have KEEP:=Lib.hid fun (wx:World) (hx:Below w0.heap.size w0 wx)=>(show wx.heap[w.heap.size]? = _ from (hx.block _ (Array.getElem?_eq_some_iff.1 K0.out).1).trans K0.out)
 have HB0:=Lib.hid (Below.refl w0.heap.size w0)
 have k0:=Qa K0.out 0 _ rfl
 have k1:=Qa K0.out 1 _ rfl
 have k2:=Qa K0.out 2 _ rfl
 have k3:=Qa K0.out 3 _ rfl
 have k4:=Qa K0.out 4 _ rfl
 have k5:=Qa K0.out 5 _ rfl
 have k6:=Qa K0.out 6 _ rfl
 have k7:=Qa K0.out 7 _ rfl
 have k8:=Qa K0.out 8 _ rfl
 have k9:=Qa K0.out 9 _ rfl
 have k10:=Qa K0.out 10 _ rfl
 have k11:=Qa K0.out 11 _ rfl
 have k12:=Qa K0.out 12 _ rfl
 have k13:=Qa K0.out 13 _ rfl
 cases p
 ·skip
  go_wp2_with fail
  refine (CK.out w0 (HA.out.trans (HB0.out.mono HA.out.size))).mono ?_
  rintro e w1 ⟨rfl,hb⟩
  have HB1:=Lib.hid (HB0.out.trans (hb.mono HB0.out.size))
  clear hb k0 k1 k2 k3 k4 k5 k6 k7 k8 k9 k10 k11 k12 k13
  have k0:=Qa (KEEP.out w1 HB1.out) 0 _ rfl
  have k1:=Qa (KEEP.out w1 HB1.out) 1 _ rfl
  have k2:=Qa (KEEP.out w1 HB1.out) 2 _ rfl
  have k3:=Qa (KEEP.out w1 HB1.out) 3 _ rfl
  have k4:=Qa (KEEP.out w1 HB1.out) 4 _ rfl
  have k5:=Qa (KEEP.out w1 HB1.out) 5 _ rfl
  have k6:=Qa (KEEP.out w1 HB1.out) 6 _ rfl
  have k7:=Qa (KEEP.out w1 HB1.out) 7 _ rfl
  have k8:=Qa (KEEP.out w1 HB1.out) 8 _ rfl
  have k9:=Qa (KEEP.out w1 HB1.out) 9 _ rfl
  have k10:=Qa (KEEP.out w1 HB1.out) 10 _ rfl
  have k11:=Qa (KEEP.out w1 HB1.out) 11 _ rfl
  have k12:=Qa (KEEP.out w1 HB1.out) 12 _ rfl
  have k13:=Qa (KEEP.out w1 HB1.out) 13 _ rfl
  obtain rfl:R=false:=by rw [HRR.out];simp
  go_wp2_with fail
  go_ret
  exact ⟨rfl,HA.out.trans (HB1.out.mono HA.out.size)⟩
 ·skip
  go_wp2_with fail
  refine (CK.out w0 (HA.out.trans (HB0.out.mono HA.out.size))).mono ?_
  rintro e w1 ⟨rfl,hb⟩
  have HB1:=Lib.hid (HB0.out.trans (hb.mono HB0.out.size))
  clear hb k0 k1 k2 k3 k4 k5 k6 k7 k8 k9 k10 k11 k12 k13
  have k0:=Qa (KEEP.out w1 HB1.out) 0 _ rfl
  have k1:=Qa (KEEP.out w1 HB1.out) 1 _ rfl
  have k2:=Qa (KEEP.out w1 HB1.out) 2 _ rfl
  have k3:=Qa (KEEP.out w1 HB1.out) 3 _ rfl
  have k4:=Qa (KEEP.out w1 HB1.out) 4 _ rfl
  have k5:=Qa (KEEP.out w1 HB1.out) 5 _ rfl
  have k6:=Qa (KEEP.out w1 HB1.out) 6 _ rfl
  have k7:=Qa (KEEP.out w1 HB1.out) 7 _ rfl
  have k8:=Qa (KEEP.out w1 HB1.out) 8 _ rfl
  have k9:=Qa (KEEP.out w1 HB1.out) 9 _ rfl
  have k10:=Qa (KEEP.out w1 HB1.out) 10 _ rfl
  have k11:=Qa (KEEP.out w1 HB1.out) 11 _ rfl
  have k12:=Qa (KEEP.out w1 HB1.out) 12 _ rfl
  have k13:=Qa (KEEP.out w1 HB1.out) 13 _ rfl
  by_cases hf:F<0
  ·have g0:decide (F<0)=true:=decide_eq_true hf
   rw [g0] at HRR
   have GF:=Lib.hid hf
   clear hf
   go_wp2_with fail
   refine (CF.out w1 (HA.out.trans (HB1.out.mono HA.out.size))).mono ?_
   rintro e w2 ⟨rfl,hb⟩
   have HB2:=Lib.hid (HB1.out.trans (hb.mono HB1.out.size))
   clear hb k0 k1 k2 k3 k4 k5 k6 k7 k8 k9 k10 k11 k12 k13
   have k0:=Qa (KEEP.out w2 HB2.out) 0 _ rfl
   have k1:=Qa (KEEP.out w2 HB2.out) 1 _ rfl
   have k2:=Qa (KEEP.out w2 HB2.out) 2 _ rfl
   have k3:=Qa (KEEP.out w2 HB2.out) 3 _ rfl
   have k4:=Qa (KEEP.out w2 HB2.out) 4 _ rfl
   have k5:=Qa (KEEP.out w2 HB2.out) 5 _ rfl
   have k6:=Qa (KEEP.out w2 HB2.out) 6 _ rfl
   have k7:=Qa (KEEP.out w2 HB2.out) 7 _ rfl
   have k8:=Qa (KEEP.out w2 HB2.out) 8 _ rfl
   have k9:=Qa (KEEP.out w2 HB2.out) 9 _ rfl
   have k10:=Qa (KEEP.out w2 HB2.out) 10 _ rfl
   have k11:=Qa (KEEP.out w2 HB2.out) 11 _ rfl
   have k12:=Qa (KEEP.out w2 HB2.out) 12 _ rfl
   have k13:=Qa (KEEP.out w2 HB2.out) 13 _ rfl
   go_wp2_with fail
   refine (CM.out w2 (HA.out.trans (HB2.out.mono HA.out.size))).mono ?_
   rintro e w3 ⟨rfl,hb⟩
   have HB3:=Lib.hid (HB2.out.trans (hb.mono HB2.out.size))
   clear hb k0 k1 k2 k3 k4 k5 k6 k7 k8 k9 k10 k11 k12 k13
   have k0:=Qa (KEEP.out w3 HB3.out) 0 _ rfl
   have k1:=Qa (KEEP.out w3 HB3.out) 1 _ rfl
   have k2:=Qa (KEEP.out w3 HB3.out) 2 _ rfl
   have k3:=Qa (KEEP.out w3 HB3.out) 3 _ rfl
   have k4:=Qa (KEEP.out w3 HB3.out) 4 _ rfl
   have k5:=Qa (KEEP.out w3 HB3.out) 5 _ rfl
   have k6:=Qa (KEEP.out w3 HB3.out) 6 _ rfl
   have k7:=Qa (KEEP.out w3 HB3.out) 7 _ rfl
   have k8:=Qa (KEEP.out w3 HB3.out) 8 _ rfl
   have k9:=Qa (KEEP.out w3 HB3.out) 9 _ rfl
   have k10:=Qa (KEEP.out w3 HB3.out) 10 _ rfl
   have k11:=Qa (KEEP.out w3 HB3.out) 11 _ rfl
   have k12:=Qa (KEEP.out w3 HB3.out) 12 _ rfl
   have k13:=Qa (KEEP.out w3 HB3.out) 13 _ rfl
   go_wp2_with fail
   refine (CI.out w3 (HA.out.trans (HB3.out.mono HA.out.size))).mono ?_
   rintro e w4 ⟨rfl,hb⟩
   have HB4:=Lib.hid (HB3.out.trans (hb.mono HB3.out.size))
   clear hb k0 k1 k2 k3 k4 k5 k6 k7 k8 k9 k10 k11 k12 k13
   have k0:=Qa (KEEP.out w4 HB4.out) 0 _ rfl
   have k1:=Qa (KEEP.out w4 HB4.out) 1 _ rfl
   have k2:=Qa (KEEP.out w4 HB4.out) 2 _ rfl
   have k3:=Qa (KEEP.out w4 HB4.out) 3 _ rfl
   have k4:=Qa (KEEP.out w4 HB4.out) 4 _ rfl
   have k5:=Qa (KEEP.out w4 HB4.out) 5 _ rfl
   have k6:=Qa (KEEP.out w4 HB4.out) 6 _ rfl
   have k7:=Qa (KEEP.out w4 HB4.out) 7 _ rfl
   have k8:=Qa (KEEP.out w4 HB4.out) 8 _ rfl
   have k9:=Qa (KEEP.out w4 HB4.out) 9 _ rfl
   have k10:=Qa (KEEP.out w4 HB4.out) 10 _ rfl
   have k11:=Qa (KEEP.out w4 HB4.out) 11 _ rfl
   have k12:=Qa (KEEP.out w4 HB4.out) 12 _ rfl
   have k13:=Qa (KEEP.out w4 HB4.out) 13 _ rfl
   cases b1
   ·skip
    go_wp2_with fail
    refine (CX.out w4 (HA.out.trans (HB4.out.mono HA.out.size))).mono ?_
    rintro e w5 ⟨rfl,hb⟩
    have HB5:=Lib.hid (HB4.out.trans (hb.mono HB4.out.size))
    clear hb k0 k1 k2 k3 k4 k5 k6 k7 k8 k9 k10 k11 k12 k13
    have k0:=Qa (KEEP.out w5 HB5.out) 0 _ rfl
    have k1:=Qa (KEEP.out w5 HB5.out) 1 _ rfl
    have k2:=Qa (KEEP.out w5 HB5.out) 2 _ rfl
    have k3:=Qa (KEEP.out w5 HB5.out) 3 _ rfl
    have k4:=Qa (KEEP.out w5 HB5.out) 4 _ rfl
    have k5:=Qa (KEEP.out w5 HB5.out) 5 _ rfl
    have k6:=Qa (KEEP.out w5 HB5.out) 6 _ rfl
    have k7:=Qa (KEEP.out w5 HB5.out) 7 _ rfl
    have k8:=Qa (KEEP.out w5 HB5.out) 8 _ rfl
    have k9:=Qa (KEEP.out w5 HB5.out) 9 _ rfl
    have k10:=Qa (KEEP.out w5 HB5.out) 10 _ rfl
    have k11:=Qa (KEEP.out w5 HB5.out) 11 _ rfl
    have k12:=Qa (KEEP.out w5 HB5.out) 12 _ rfl
    have k13:=Qa (KEEP.out w5 HB5.out) 13 _ rfl
    obtain rfl:R=false:=by rw [HRR.out];simp
    go_wp2_with fail
    go_ret
    exact ⟨rfl,HA.out.trans (HB5.out.mono HA.out.size)⟩
   ·skip
    go_wp2_with fail
    refine (CX.out w4 (HA.out.trans (HB4.out.mono HA.out.size))).mono ?_
    rintro e w5 ⟨rfl,hb⟩
    have HB5:=Lib.hid (HB4.out.trans (hb.mono HB4.out.size))
    clear hb k0 k1 k2 k3 k4 k5 k6 k7 k8 k9 k10 k11 k12 k13
    have k0:=Qa (KEEP.out w5 HB5.out) 0 _ rfl
    have k1:=Qa (KEEP.out w5 HB5.out) 1 _ rfl
    have k2:=Qa (KEEP.out w5 HB5.out) 2 _ rfl
    have k3:=Qa (KEEP.out w5 HB5.out) 3 _ rfl
    have k4:=Qa (KEEP.out w5 HB5.out) 4 _ rfl
    have k5:=Qa (KEEP.out w5 HB5.out) 5 _ rfl
    have k6:=Qa (KEEP.out w5 HB5.out) 6 _ rfl
    have k7:=Qa (KEEP.out w5 HB5.out) 7 _ rfl
    have k8:=Qa (KEEP.out w5 HB5.out) 8 _ rfl
    have k9:=Qa (KEEP.out w5 HB5.out) 9 _ rfl
    have k10:=Qa (KEEP.out w5 HB5.out) 10 _ rfl
    have k11:=Qa (KEEP.out w5 HB5.out) 11 _ rfl
    have k12:=Qa (KEEP.out w5 HB5.out) 12 _ rfl
    have k13:=Qa (KEEP.out w5 HB5.out) 13 _ rfl
    cases q3
    ·skip
     obtain rfl:R=true:=by rw [HRR.out];simp
     go_wp2_with fail
     go_ret
     exact ⟨rfl,HA.out.trans (HB5.out.mono HA.out.size)⟩
    ·skip
     go_wp2_with fail
     refine (CM.out w5 (HA.out.trans (HB5.out.mono HA.out.size))).mono ?_
     rintro e w6 ⟨rfl,hb⟩
     have HB6:=Lib.hid (HB5.out.trans (hb.mono HB5.out.size))
     clear hb k0 k1 k2 k3 k4 k5 k6 k7 k8 k9 k10 k11 k12 k13
     have k0:=Qa (KEEP.out w6 HB6.out) 0 _ rfl
     have k1:=Qa (KEEP.out w6 HB6.out) 1 _ rfl
     have k2:=Qa (KEEP.out w6 HB6.out) 2 _ rfl
     have k3:=Qa (KEEP.out w6 HB6.out) 3 _ rfl
     have k4:=Qa (KEEP.out w6 HB6.out) 4 _ rfl
     have k5:=Qa (KEEP.out w6 HB6.out) 5 _ rfl
     have k6:=Qa (KEEP.out w6 HB6.out) 6 _ rfl
     have k7:=Qa (KEEP.out w6 HB6.out) 7 _ rfl
     have k8:=Qa (KEEP.out w6 HB6.out) 8 _ rfl
     have k9:=Qa (KEEP.out w6 HB6.out) 9 _ rfl
     have k10:=Qa (KEEP.out w6 HB6.out) 10 _ rfl
     have k11:=Qa (KEEP.out w6 HB6.out) 11 _ rfl
     have k12:=Qa (KEEP.out w6 HB6.out) 12 _ rfl
     have k13:=Qa (KEEP.out w6 HB6.out) 13 _ rfl
     go_wp2_with fail
     refine (CO.out w6 (HA.out.trans (HB6.out.mono HA.out.size))).mono ?_
     rintro e w7 ⟨rfl,hb⟩
     have HB7:=Lib.hid (HB6.out.trans (hb.mono HB6.out.size))
     clear hb k0 k1 k2 k3 k4 k5 k6 k7 k8 k9 k10 k11 k12 k13
     have k0:=Qa (KEEP.out w7 HB7.out) 0 _ rfl
     have k1:=Qa (KEEP.out w7 HB7.out) 1 _ rfl
     have k2:=Qa (KEEP.out w7 HB7.out) 2 _ rfl
     have k3:=Qa (KEEP.out w7 HB7.out) 3 _ rfl
     have k4:=Qa (KEEP.out w7 HB7.out) 4 _ rfl
     have k5:=Qa (KEEP.out w7 HB7.out) 5 _ rfl
     have k6:=Qa (KEEP.out w7 HB7.out) 6 _ rfl
     have k7:=Qa (KEEP.out w7 HB7.out) 7 _ rfl
     have k8:=Qa (KEEP.out w7 HB7.out) 8 _ rfl
     have k9:=Qa (KEEP.out w7 HB7.out) 9 _ rfl
     have k10:=Qa (KEEP.out w7 HB7.out) 10 _ rfl
     have k11:=Qa (KEEP.out w7 HB7.out) 11 _ rfl
     have k12:=Qa (KEEP.out w7 HB7.out) 12 _ rfl
     have k13:=Qa (KEEP.out w7 HB7.out) 13 _ rfl
     cases b2
     ·skip
      go_wp2_with fail
      refine (CY.out w7 (HA.out.trans (HB7.out.mono HA.out.size))).mono ?_
      rintro e w8 ⟨rfl,hb⟩
      have HB8:=Lib.hid (HB7.out.trans (hb.mono HB7.out.size))
      clear hb k0 k1 k2 k3 k4 k5 k6 k7 k8 k9 k10 k11 k12 k13
      have k0:=Qa (KEEP.out w8 HB8.out) 0 _ rfl
      have k1:=Qa (KEEP.out w8 HB8.out) 1 _ rfl
      have k2:=Qa (KEEP.out w8 HB8.out) 2 _ rfl
      have k3:=Qa (KEEP.out w8 HB8.out) 3 _ rfl
      have k4:=Qa (KEEP.out w8 HB8.out) 4 _ rfl
      have k5:=Qa (KEEP.out w8 HB8.out) 5 _ rfl
      have k6:=Qa (KEEP.out w8 HB8.out) 6 _ rfl
      have k7:=Qa (KEEP.out w8 HB8.out) 7 _ rfl
      have k8:=Qa (KEEP.out w8 HB8.out) 8 _ rfl
      have k9:=Qa (KEEP.out w8 HB8.out) 9 _ rfl
      have k10:=Qa (KEEP.out w8 HB8.out) 10 _ rfl
      have k11:=Qa (KEEP.out w8 HB8.out) 11 _ rfl
      have k12:=Qa (KEEP.out w8 HB8.out) 12 _ rfl
      have k13:=Qa (KEEP.out w8 HB8.out) 13 _ rfl
      obtain rfl:R=false:=by rw [HRR.out];simp
      go_wp2_with fail
      go_ret
      exact ⟨rfl,HA.out.trans (HB8.out.mono HA.out.size)⟩
     ·skip
      go_wp2_with fail
      refine (CY.out w7 (HA.out.trans (HB7.out.mono HA.out.size))).mono ?_
      rintro e w8 ⟨rfl,hb⟩
      have HB8:=Lib.hid (HB7.out.trans (hb.mono HB7.out.size))
      clear hb k0 k1 k2 k3 k4 k5 k6 k7 k8 k9 k10 k11 k12 k13
      have k0:=Qa (KEEP.out w8 HB8.out) 0 _ rfl
      have k1:=Qa (KEEP.out w8 HB8.out) 1 _ rfl
      have k2:=Qa (KEEP.out w8 HB8.out) 2 _ rfl
      have k3:=Qa (KEEP.out w8 HB8.out) 3 _ rfl
      have k4:=Qa (KEEP.out w8 HB8.out) 4 _ rfl
      have k5:=Qa (KEEP.out w8 HB8.out) 5 _ rfl
      have k6:=Qa (KEEP.out w8 HB8.out) 6 _ rfl
      have k7:=Qa (KEEP.out w8 HB8.out) 7 _ rfl
      have k8:=Qa (KEEP.out w8 HB8.out) 8 _ rfl
      have k9:=Qa (KEEP.out w8 HB8.out) 9 _ rfl
      have k10:=Qa (KEEP.out w8 HB8.out) 10 _ rfl
      have k11:=Qa (KEEP.out w8 HB8.out) 11 _ rfl
      have k12:=Qa (KEEP.out w8 HB8.out) 12 _ rfl
      have k13:=Qa (KEEP.out w8 HB8.out) 13 _ rfl
      obtain rfl:R=true:=by rw [HRR.out];simp
      go_wp2_with fail
      go_ret
      exact ⟨rfl,HA.out.trans (HB8.out.mono HA.out.size)⟩
  ·have g0:decide (F<0)=false:=decide_eq_false hf
   rw [g0] at HRR
   have GF:=Lib.hid hf
   clear hf
   go_wp2_with fail
   refine (CF.out w1 (HA.out.trans (HB1.out.mono HA.out.size))).mono ?_
   rintro e w2 ⟨rfl,hb⟩
   have HB2:=Lib.hid (HB1.out.trans (hb.mono HB1.out.size))
   clear hb k0 k1 k2 k3 k4 k5 k6 k7 k8 k9 k10 k11 k12 k13
   have k0:=Qa (KEEP.out w2 HB2.out) 0 _ rfl
   have k1:=Qa (KEEP.out w2 HB2.out) 1 _ rfl
   have k2:=Qa (KEEP.out w2 HB2.out) 2 _ rfl
   have k3:=Qa (KEEP.out w2 HB2.out) 3 _ rfl
   have k4:=Qa (KEEP.out w2 HB2.out) 4 _ rfl
   have k5:=Qa (KEEP.out w2 HB2.out) 5 _ rfl
   have k6:=Qa (KEEP.out w2 HB2.out) 6 _ rfl
   have k7:=Qa (KEEP.out w2 HB2.out) 7 _ rfl
   have k8:=Qa (KEEP.out w2 HB2.out) 8 _ rfl
   have k9:=Qa (KEEP.out w2 HB2.out) 9 _ rfl
   have k10:=Qa (KEEP.out w2 HB2.out) 10 _ rfl
   have k11:=Qa (KEEP.out w2 HB2.out) 11 _ rfl
   have k12:=Qa (KEEP.out w2 HB2.out) 12 _ rfl
   have k13:=Qa (KEEP.out w2 HB2.out) 13 _ rfl
   obtain rfl:R=false:=by rw [HRR.out];simp
   go_wp2_with fail
   go_ret
   exact ⟨rfl,HA.out.trans (HB2.out.mono HA.out.size)⟩
end Go.Proofs.YtcooobnaocbdjaaGreatDoor

end

/-! YtcooobnaocbdjaaGreatDoorPCur -/
section
set_option linter.unusedVariables false
namespace Go.Proofs.YtcooobnaocbdjaaGreatDoor
open Go.RowKit
structure St where
 i:Nat
 h:Int
def Qpz (a:Option Addr) (n cap:Nat) (s:St):Array Value:=#[.slice a n cap,.int .i64 s.i,.int .i64 s.h]
structure CurAt (B:Nat) (w:World) (C:Nat) (a:Option Addr) (cap:Nat) (bs:List UInt8) (s:St):Prop where
 cur:w.heap[C]? = some (.cells (Qpz a bs.length cap s) 179 (0,0))
 fit:s.i<=bs.length
 room:bs.length<=1048576
 code : ∀ j (hj:j<bs.length),∃ b o,a=some ⟨b,o,none⟩/\b<B/\w.cell? ⟨b,o+j,none⟩=some (.int .u8 (bs[j].toNat:Int))
 up:B<=C
def Qp0 (h:Int):Int:=wrap64 (wrap64 (h*6364136223846793005)+1442695040888963407)
def xOf (h:Int):Int:=bits .and .i64 (bits .xor .i64 (h / 8589934592) (h / 35184372088832)) 255
def Qbm (bs:List UInt8) (s:St):Int × St:=
 if s.i<bs.length then (bits .and .i64 (xOf (Qp0 s.h)+((bs.getD s.i 0).toNat:Int)) 255,⟨s.i+1,Qp0 s.h⟩) else (xOf (Qp0 s.h),⟨s.i,Qp0 s.h⟩)
structure Drawn (B:Nat) (w w':World) (C:Nat) (a:Option Addr) (cap:Nat) (bs:List UInt8) (s:St):Prop where
 at_:CurAt B w' C a cap bs s
 grown:w.grownBy w' (some C)
theorem Drawn.refl {B:Nat} {w:World} {C:Nat} {a:Option Addr} {cap:Nat} {bs:List UInt8} {s:St} (h:CurAt B w C a cap bs s):Drawn B w w C a cap bs s:=⟨h,World.grownBy.refl _ _⟩
theorem Qaw {w w1 w2:World} {r:Option Nat} (h:w.grownBy w1 r) (k:w1.grownBy w2 r):w.grownBy w2 r:=
 ⟨k.os.trans h.os,k.tape.trans h.tape,k.output.trans h.output,Nat.le_trans h.size k.size,fun b hb hr=>(k.block b (Nat.lt_of_lt_of_le hb h.size) hr).trans (h.block b hb hr)⟩
theorem Drawn.trans {B:Nat} {w w1 w2:World} {C:Nat} {a:Option Addr} {cap:Nat} {bs:List UInt8} {s s':St} (h:Drawn B w w1 C a cap bs s) (k:Drawn B w1 w2 C a cap bs s'):Drawn B w w2 C a cap bs s':=
 ⟨k.at_,Qaw h.grown k.grown⟩
theorem Drawn.below {B:Nat} {w w':World} {C:Nat} {a:Option Addr} {cap:Nat} {bs:List UInt8} {s:St} (h:Drawn B w w' C a cap bs s) (hB:B<=w.heap.size):Below B w w':=
 (Below.refl B w).grown h.grown hB (fun k hk=>by cases hk;exact h.at_.up)
theorem CurAt.keep {B:Nat} {w w':World} {C:Nat} {a:Option Addr} {cap:Nat} {bs:List UInt8} {s:St} (h:CurAt B w C a cap bs s) (hC:w'.heap[C]? = w.heap[C]?) (hb : ∀ k,k<B->w'.heap[k]? = w.heap[k]?):CurAt B w' C a cap bs s:=
 ⟨hC.trans h.cur,h.fit,h.room,fun j hj=>by
  obtain ⟨b,o,e1,e2,e3⟩:=h.code j hj
  exact ⟨b,o,e1,e2,(World.cell?_of_block (w:=w) (a:=⟨b,o+j,none⟩) (hb b e2)).trans e3⟩,h.up⟩
theorem CurAt.grown {B:Nat} {w w':World} {C:Nat} {a:Option Addr} {cap:Nat} {bs:List UInt8} {s:St} {row:Option Nat} (h:CurAt B w C a cap bs s) (hg:w.grownBy w' row) (hr : ∀ k,row=some k->B<=k/\k≠C):CurAt B w' C a cap bs s:=by
 have hCl:C<w.heap.size:=(Array.getElem?_eq_some_iff.1 h.cur).1
 exact h.keep (hg.block C hCl (fun e=>(hr C e.symm).2 rfl)) fun k hk=>hg.block k (by have:=h.up;omega) (fun e=>by have:=(hr k e.symm).1;omega)
theorem CurAt.alloc {B:Nat} {w:World} {C:Nat} {a:Option Addr} {cap:Nat} {bs:List UInt8} {s:St} (h:CurAt B w C a cap bs s) (o:Obj):CurAt B (w.alloc o) C a cap bs s:=
 h.grown (World.grownBy_alloc w o none) (fun k hk=>by cases hk)
theorem CurAt.drew {B:Nat} {w:World} {C:Nat} {a:Option Addr} {cap:Nat} {bs:List UInt8} {s:St} (h:CurAt B w C a cap bs s):CurAt B w.drew C a cap bs s:=h.keep rfl fun _ _=>rfl
end Go.Proofs.YtcooobnaocbdjaaGreatDoor

end

/-! YtcooobnaocbdjaaGreatDoorPDraw -/
section
set_option linter.unusedVariables false
namespace Go.Proofs.YtcooobnaocbdjaaGreatDoor
open Go.RowKit
def newH (bs:List UInt8):Nat->Int
 | 0=>10101+bs.length
 | k+1=>bits .and .i64 (newH bs k*131+((bs.getD k 0).toNat:Int)+7) 1073741823
def Qob (bs:List UInt8):St:=⟨0,newH bs (min bs.length 4000)⟩
def Qy (bs:List UInt8) (s:St) (n:Int):Int × St:=
 if n<=0 then (0,s) else if n<=256 then ((Qbm bs s).1 % n,(Qbm bs s).2) else
  ((
   (Qbm bs s).1*16777216+(Qbm bs (Qbm bs s).2).1*65536+(Qbm bs (Qbm bs (Qbm bs s).2).2).1*256+(Qbm bs (Qbm bs (Qbm bs (Qbm bs s).2).2).2).1) % n,
   (Qbm bs (Qbm bs (Qbm bs (Qbm bs s).2).2).2).2)
def Qr7:List Int:=[-1,0,127,128,255,256,16383,16384,65535,65536,562949953421311,562949953421312,999999999,1000000000,-999999999,9223372036854775807,-9223372036854775808]
end Go.Proofs.YtcooobnaocbdjaaGreatDoor

end

/-! YtcooobnaocbdjaaGreatDoorPDrawText -/
section
set_option linter.unusedVariables false
namespace Go.Proofs.YtcooobnaocbdjaaGreatDoor
open Go.RowKit
def numF (bs:List UInt8) (s:St):Int × St:=
 if (Qy bs s 8).1=0 then (Qr7.getD (Qy bs (Qy bs s 8).2 17).1.toNat 0,(Qy bs (Qy bs s 8).2 17).2)
 else if (Qy bs s 8).1=1 then
  ((Qy bs (Qy bs s 8).2 1000000000).1*(Qy bs (Qy bs (Qy bs s 8).2 1000000000).2 1000000000).1,(Qy bs (Qy bs (Qy bs s 8).2 1000000000).2 1000000000).2)
 else if (Qy bs s 8).1=2 then (-(Qy bs (Qy bs s 8).2 100000).1,(Qy bs (Qy bs s 8).2 100000).2)
 else Qy bs (Qy bs s 8).2 70000
def Qr8 (st b:Int):Int:=if st=1 then b % 2 else if st=2 then 97+b % 4 else b
def Qh4 (bs:List UInt8) (st:Int):Nat->St->List UInt8 × St
 | 0,s=>([],s)
 | n+1,s=>(UInt8.ofNat (Qr8 st (Qbm bs s).1).toNat::(Qh4 bs st n (Qbm bs s).2).1,(Qh4 bs st n (Qbm bs s).2).2)
def Qoc (bs:List UInt8) (s:St) (most:Int):List UInt8 × St:=
 Qh4 bs (Qy bs s 4).1 (Qy bs (Qy bs s 4).2 (most+1)).1.toNat (Qy bs (Qy bs s 4).2 (most+1)).2
theorem Drawn.later {B:Nat} {w w1 w2:World} {C:Nat} {a:Option Addr} {cap:Nat} {bs:List UInt8} {s:St} {row:Option Nat} (h:Drawn B w w1 C a cap bs s) (hg:w1.grownBy w2 row) (hr : ∀ k,row=some k->w.heap.size<=k) (hC:C<w.heap.size) (hB:B<=w.heap.size):Drawn B w w2 C a cap bs s:=
 ⟨h.at_.grown hg (fun k hk=>by have:=hr k hk;omega),⟨hg.os.trans h.grown.os,hg.tape.trans h.grown.tape,hg.output.trans h.grown.output,Nat.le_trans h.grown.size hg.size,
  fun k hk hkr=>(hg.block k (Nat.lt_of_lt_of_le hk h.grown.size) (fun e=>by have:=hr k e.symm;omega)).trans (h.grown.block k hk hkr)⟩⟩
end Go.Proofs.YtcooobnaocbdjaaGreatDoor

end
