import Derived.Test.YtcooobnaocbdjaaGreatDoorJoin26
import Derived.Test.YtcooobnaocbdjaaGreatDoorJoin6
set_option maxRecDepth 100000
set_option maxHeartbeats 6400000
set_option linter.unusedSimpArgs false
set_option linter.unusedVariables false
namespace Go.Proofs.YtcooobnaocbdjaaGreatDoor
open Go.RowKit Go.Sort
def Qe:Owned Qx:= .struct (.cons Owned.int (.last (Owned.list ownRow (by decide))))
theorem J3:Qe.size=2:=rfl
theorem Zx {F:Foot} {w:World} {cs:List Value} {d:Qx}:Qe.owns F w cs d ↔ ∃ a0 n0 c0,cs=[.int .i64 d.1,.slice a0 n0 c0]/\(n0<=c0/\c0<=9223372036854775807/\Qk ownRow F w a0 n0 d.2):=by
 constructor
 ·rintro ⟨_,_,A0,B0,rfl,rfl,⟨a0,n0,c0,rfl,x0,y0,l0⟩,s0,t0,p0⟩
  exact ⟨a0,n0,c0,rfl,x0,y0,l0.sub fun b o g=>t0 _ _ (g)⟩
 ·rintro ⟨a0,n0,c0,rfl,x0,y0,l0⟩
  exact ⟨_,_,(fun _ _=>False),F,rfl,rfl,⟨a0,n0,c0,rfl,x0,y0,l0⟩,fun _ _ g=>g.elim,fun _ _ g=>g,fun _ _ g=>g.elim⟩
theorem Qok (w:World) (B:Nat) (es:List Value) (x:Qx) (h:Qc.reads (Qf B) w es x) (hB:B<=w.heap.size) (hb:Qc.bulk x<=1048576) :
  Calls Tryz.prog 174 #[.agg es.toArray] w fun e w' => ∃ es',e = .returned (.agg es'.toArray)/\Qe.owns (Zb w.heap.size w'.heap.size) w' es' x/\Below w.heap.size w w':=by
 obtain ⟨a0,n0,c0,rfl,⟨p0,r0,l0⟩⟩:=Q7.1 h
 rw [Zi] at hb
 have m0:n0<=1048576:=by have:=Qh Qi l0;omega
 have H0:=Lib.hid fun (w1:World) (hbw:Below w.heap.size w w1)=>Qh6 w1 B a0 n0 c0 _ (l0.below hbw hB) (Nat.le_trans hB hbw.size) (by omega)
 have hbx:=Boxes.start w #[.int .i64 x.1,.slice a0 n0 c0] #[.int .i64 0,.slice none 0 0] #[.int .i64 x.1,.slice none 0 0] 219 46
 clear h hb l0 r0 p0
 go_enter Tryz.func174,Tryz.ntmps174
 go_wp2_with fail
 generalize ((w.alloc (.cells #[.int .i64 x.1,.slice a0 n0 c0] 219 (0,0))).alloc (.cells #[.int .i64 0,.slice none 0 0] 46 (0,0))).alloc (.cells #[.int .i64 x.1,.slice none 0 0] 46 (0,0))=v0 at hbx |-
 have BX0:=Lib.hid hbx
 clear hbx
 refine (H0.out v0 BX0.out.below).mono ?_
 rintro e w1 ⟨rfl,hr0,hb0⟩
 have hbx:=BX0.out.call hb0
 have sb0:=hb0.size
 have hlt0:=BX0.out.size
 have za0_0:w1.cell? ⟨w.heap.size,0,none⟩=_:=cell_of_row _ _ _ _ _ _ hbx.a
 have za0_1:w1.cell? ⟨w.heap.size,1,none⟩=_:=cell_of_row _ _ _ _ _ _ hbx.a
 have zo0_0:w1.cell? ⟨w.heap.size+1+1,0,none⟩=_:=cell_of_row _ _ _ _ _ _ hbx.o
 have zo0_1:w1.cell? ⟨w.heap.size+1+1,1,none⟩=_:=cell_of_row _ _ _ _ _ _ hbx.o
 have zr0_0:w1.cell? ⟨w.heap.size+1,0,none⟩=_:=cell_of_row _ _ _ _ _ _ hbx.z
 have zr0_1:w1.cell? ⟨w.heap.size+1,1,none⟩=_:=cell_of_row _ _ _ _ _ _ hbx.z
 have fo0_0:w1.frozen? ⟨w.heap.size+1+1,0,none⟩=false:=frozen_of_row _ _ _ _ _ hbx.o
 have fr0_0:w1.frozen? ⟨w.heap.size+1,0,none⟩=false:=frozen_of_row _ _ _ _ _ hbx.z
 have fo0_1:w1.frozen? ⟨w.heap.size+1+1,1,none⟩=false:=frozen_of_row _ _ _ _ _ hbx.o
 have fr0_1:w1.frozen? ⟨w.heap.size+1,1,none⟩=false:=frozen_of_row _ _ _ _ _ hbx.z
 simp only [List.setIfInBounds_toArray,List.set_cons_zero,List.set_cons_succ,List.getElem?_toArray,List.getElem?_cons_zero,List.getElem?_cons_succ] at za0_0 zo0_0 zr0_0 za0_1 zo0_1 zr0_1
 have N0_0:=hr0
 have hby:=(hbx.store 1 (.slice (some ⟨v0.heap.size,0,none⟩) n0 n0))
 have O0_0:=(N0_0.stored (w.heap.size+1+1) 1 (.slice (some ⟨v0.heap.size,0,none⟩) n0 n0) (by omega))
 replace hby:=Lib.hid hby
 replace O0_0:=Lib.hid O0_0
 clear N0_0
 clear hr0 hbx hb0
 go_wp2_with fail
 refine bodyPost_ret (results_cell_row rfl _ _ (w.heap.size+1) 46 #[.int .i64 x.1,.slice (some ⟨v0.heap.size,0,none⟩) n0 n0] (0,0) _ rfl ?_ Tryz.underlying46 rfl (by kernel_rfl)) rfl ?_
 ·exact hby.out.result [.int .i64 x.1,.slice (some ⟨v0.heap.size,0,none⟩) n0 n0] rfl
 refine ⟨[.int .i64 x.1,.slice (some ⟨v0.heap.size,0,none⟩) n0 n0],rfl,?_,hby.out.last [.int .i64 x.1,.slice (some ⟨v0.heap.size,0,none⟩) n0 n0]⟩
 have hfin:=Zx (F:=Zb v0.heap.size w1.heap.size).2 ⟨_,_,_,rfl,Nat.le_refl _,by omega,(O0_0.out.storedAll (w.heap.size+1) 0 [.int .i64 x.1,.slice (some ⟨v0.heap.size,0,none⟩) n0 n0] (by omega))⟩
 exact Qe.owns_sub hfin fun b o f=>⟨by have:=f.1;omega,by have h2:=f.2;simp;omega⟩
theorem Qmp (w:World) (B:Nat) (a:Option Addr) (n c:Nat) (xs:List Qx) (h:Qb Qc (Qf B) w a n xs) (hB:B<=w.heap.size) (hb:(Shape.list Qc).bulk xs<=1048576) :
  Calls Tryz.prog 79 #[.slice a n c] w fun e w'=>e = .returned (.slice (some ⟨w.heap.size,0,none⟩) n n)/\Qk Qe (Zb w.heap.size w'.heap.size) w' (some ⟨w.heap.size,0,none⟩) n xs/\Below w.heap.size w w':=by
 have hbk:(Shape.list Qc).bulk xs=n+Shape.sum Qc.bulk xs:=by rw [<- h.1];rfl
 rw [hbk] at hb
 have hmk:=Jg (P:=Tryz.prog) 26 46 _ 2 32 Tryz.underlying26 Jk n (by omega) (by omega)
 have hst:=OFilled.start Qe w n xs (Value.agg #[.int .i64 0,.slice none 0 0]).cells 46
 replace hst:=Lib.hid hst
 have HL:=Lib.hid h
 have HB:=Lib.hid hb
 have hn1:n<=1048576:=by omega
 clear hbk h hb
 go_enter Tryz.func79,Tryz.ntmps79
 go_wp2_with fail
 go_loopw [4] (fun i wr => ∃ k:Nat,k<=n/\i = .int .i64 k/\OFilled Qe w wr n k xs) (fun i _=>n-(intOf i).toNat)
 case atStart=>exact ⟨0,Nat.zero_le _,rfl,hst.out⟩
 case round =>
  obtain ⟨k,hk,rfl,hf⟩:=hrel
  by_cases hlt:k<n
  ·obtain ⟨x,hx⟩ : ∃ x,xs[k]? = some x:=⟨_,List.getElem?_eq_getElem (by rw [HL.out.1];exact hlt)⟩
   obtain ⟨b,o,es,rfl,hbB,hr,hs⟩:=HL.out.2 k x hx
   have hfb:=hf.below
   have hfl:=hf.lt
   have hth0:=hf.rest (Nat.le_of_lt hlt)
   have hrr:=Qr hr (show b<w.heap.size from Nat.lt_of_lt_of_le hbB hB) (Kept.of_below (I:=Qf w.heap.size) hfb fun b hb=>hb)
   have HS:=Lib.hid (Qok wr _ es x (Qc.below (Qc.le hs hB) hfb (Nat.le_refl _)) (Nat.le_of_lt hfl) (by have h1:=Qz Qc.bulk xs k x hx;have h2:=HB.out;omega))
   have HF:=Lib.hid hf
   have HX:=Lib.hid hx
   have HT:=Lib.hid hth0
   obtain ⟨ae0,ne0,ce0,rfl,-⟩:=Q7.1 hs
   rw [Z7] at hrr
   have c0:=hrr 0 _ rfl
   have c1:=hrr 1 _ rfl
   simp only [Nat.add_zero] at c0
   try dsimp only at c0 c1 HS
   clear hr hrr hs hx hf hth0
   go_wp2_with fail
   clear c0 c1
   refine HS.out.mono ?_
   rintro e w1 ⟨es',rfl,hs',hb1⟩
   have hn4:2<=(n-k)*Qe.size:=by rw [J3];omega
   have hth:=Jw HT.out hb1 hfl
   have hN:=HF.out.step hlt hb1 HX.out hs'
   have HN:=Lib.hid hN
   have HB1:=Lib.hid hb1
   obtain ⟨af0,nf0,cf0,rfl,-⟩:=Zx.1 hs'
   obtain ⟨⟨v0,d0⟩,f0⟩:=Zl hth 0 (by omega)
   obtain ⟨⟨v1,d1⟩,f1⟩:=Zl hth 1 (by omega)
   rw [J3] at d0 d1 f0 f1
   simp only [Nat.add_zero] at d0 f0
   clear hs' hb1 hth hN
   go_wp2_with fail
   go_round
   case rel=>exact ⟨k+1,by omega,by go_num,HN.out⟩
   case measure=>simp [intOf];omega
  ·obtain rfl:k=n:=by omega
   have hz:=hf.below
   have HF:=Lib.hid hf
   clear hf hz
   go_wp2_with fail
   go_ret
   exact ⟨rfl,HF.out.list HL.out.1,HF.out.below⟩
def Qg:Owned Qq:= .struct (.cons Owned.int (.cons (Owned.list Qo (by decide)) (.cons (Owned.list ownOp (by decide)) (.cons Owned.bool (.cons Owned.bool (.cons (Owned.list Qe (by decide)) (.cons (Owned.list ownRow (by decide)) (.cons (Owned.list Owned.int (by decide)) (.cons (Owned.list Owned.int (by decide)) (.cons (Owned.list Owned.int (by decide)) (.cons (Owned.list Owned.int (by decide)) (.last Zk))))))))))))
theorem Jp {F:Foot} {w:World} {cs:List Value} {d:Qq}:Qg.owns F w cs d ↔ ∃ a0 n0 c0 a1 n1 c1 a2 n2 c2 a3 n3 c3 a4 n4 c4 a5 n5 c5 a6 n6 c6 a7 n7 c7 a8 n8 c8,∃ G0 G1 G2 G3 G4 G5 G6 G7 G8:Foot,cs=[.int .i64 d.1,.slice a0 n0 c0,.slice a1 n1 c1,.bool d.2.2.2.1,.bool d.2.2.2.2.1,.slice a2 n2 c2,.slice a3 n3 c3,.slice a4 n4 c4,.slice a5 n5 c5,.slice a6 n6 c6,.slice a7 n7 c7,.slice a8 n8 c8,.int .i64 d.2.2.2.2.2.2.2.2.2.2.2.2.1,.bool d.2.2.2.2.2.2.2.2.2.2.2.2.2]/\(n0<=c0/\c0<=9223372036854775807/\Qk Qo G0 w a0 n0 d.2.1)/\(n1<=c1/\c1<=9223372036854775807/\Qk ownOp G1 w a1 n1 d.2.2.1)/\(n2<=c2/\c2<=9223372036854775807/\Qk Qe G2 w a2 n2 d.2.2.2.2.2.1)/\(n3<=c3/\c3<=9223372036854775807/\Qk ownRow G3 w a3 n3 d.2.2.2.2.2.2.1)/\(n4<=c4/\c4<=9223372036854775807/\Qk Owned.int G4 w a4 n4 d.2.2.2.2.2.2.2.1)/\(n5<=c5/\c5<=9223372036854775807/\Qk Owned.int G5 w a5 n5 d.2.2.2.2.2.2.2.2.1)/\(n6<=c6/\c6<=9223372036854775807/\Qk Owned.int G6 w a6 n6 d.2.2.2.2.2.2.2.2.2.1)/\(n7<=c7/\c7<=9223372036854775807/\Qk Owned.int G7 w a7 n7 d.2.2.2.2.2.2.2.2.2.2.1)/\(n8<=c8/\c8<=9223372036854775807/\Qk ownRow G8 w a8 n8 d.2.2.2.2.2.2.2.2.2.2.2.1)/\(∀ b o,G0 b o->F b o)/\(∀ b o,G1 b o->F b o)/\(∀ b o,G2 b o->F b o)/\(∀ b o,G3 b o->F b o)/\(∀ b o,G4 b o->F b o)/\(∀ b o,G5 b o->F b o)/\(∀ b o,G6 b o->F b o)/\(∀ b o,G7 b o->F b o)/\(∀ b o,G8 b o->F b o)/\Zp G0 G1/\Zp G0 G2/\Zp G0 G3/\Zp G0 G4/\Zp G0 G5/\Zp G0 G6/\Zp G0 G7/\Zp G0 G8/\Zp G1 G2/\Zp G1 G3/\Zp G1 G4/\Zp G1 G5/\Zp G1 G6/\Zp G1 G7/\Zp G1 G8/\Zp G2 G3/\Zp G2 G4/\Zp G2 G5/\Zp G2 G6/\Zp G2 G7/\Zp G2 G8/\Zp G3 G4/\Zp G3 G5/\Zp G3 G6/\Zp G3 G7/\Zp G3 G8/\Zp G4 G5/\Zp G4 G6/\Zp G4 G7/\Zp G4 G8/\Zp G5 G6/\Zp G5 G7/\Zp G5 G8/\Zp G6 G7/\Zp G6 G8/\Zp G7 G8:=by
 constructor
 ·rintro ⟨_,_,A0,B0,rfl,rfl,⟨_,_,A1,B1,rfl,⟨a0,n0,c0,rfl,x0,y0,l0⟩,⟨_,_,A2,B2,rfl,⟨a1,n1,c1,rfl,x1,y1,l1⟩,⟨_,_,A3,B3,rfl,rfl,⟨_,_,A4,B4,rfl,rfl,⟨_,_,A5,B5,rfl,⟨a2,n2,c2,rfl,x2,y2,l2⟩,⟨_,_,A6,B6,rfl,⟨a3,n3,c3,rfl,x3,y3,l3⟩,⟨_,_,A7,B7,rfl,⟨a4,n4,c4,rfl,x4,y4,l4⟩,⟨_,_,A8,B8,rfl,⟨a5,n5,c5,rfl,x5,y5,l5⟩,⟨_,_,A9,B9,rfl,⟨a6,n6,c6,rfl,x6,y6,l6⟩,⟨_,_,A10,B10,rfl,⟨a7,n7,c7,rfl,x7,y7,l7⟩,g8,s10,t10,p10⟩,s9,t9,p9⟩,s8,t8,p8⟩,s7,t7,p7⟩,s6,t6,p6⟩,s5,t5,p5⟩,s4,t4,p4⟩,s3,t3,p3⟩,s2,t2,p2⟩,s1,t1,p1⟩,s0,t0,p0⟩
  obtain ⟨a8,n8,c8,rfl,x8,y8,l8⟩:=Jb.1 g8
  exact ⟨a0,n0,c0,a1,n1,c1,a2,n2,c2,a3,n3,c3,a4,n4,c4,a5,n5,c5,a6,n6,c6,a7,n7,c7,a8,n8,c8,A1,A2,A5,A6,A7,A8,A9,A10,B10,rfl,⟨x0,y0,l0⟩,⟨x1,y1,l1⟩,⟨x2,y2,l2⟩,⟨x3,y3,l3⟩,⟨x4,y4,l4⟩,⟨x5,y5,l5⟩,⟨x6,y6,l6⟩,⟨x7,y7,l7⟩,⟨x8,y8,l8⟩,fun b o g=>t0 _ _ (s1 _ _ (g)),fun b o g=>t0 _ _ (t1 _ _ (s2 _ _ (g))),fun b o g=>t0 _ _ (t1 _ _ (t2 _ _ (t3 _ _ (t4 _ _ (s5 _ _ (g)))))),fun b o g=>t0 _ _ (t1 _ _ (t2 _ _ (t3 _ _ (t4 _ _ (t5 _ _ (s6 _ _ (g))))))),fun b o g=>t0 _ _ (t1 _ _ (t2 _ _ (t3 _ _ (t4 _ _ (t5 _ _ (t6 _ _ (s7 _ _ (g)))))))),fun b o g=>t0 _ _ (t1 _ _ (t2 _ _ (t3 _ _ (t4 _ _ (t5 _ _ (t6 _ _ (t7 _ _ (s8 _ _ (g))))))))),fun b o g=>t0 _ _ (t1 _ _ (t2 _ _ (t3 _ _ (t4 _ _ (t5 _ _ (t6 _ _ (t7 _ _ (t8 _ _ (s9 _ _ (g)))))))))),fun b o g=>t0 _ _ (t1 _ _ (t2 _ _ (t3 _ _ (t4 _ _ (t5 _ _ (t6 _ _ (t7 _ _ (t8 _ _ (t9 _ _ (s10 _ _ (g))))))))))),fun b o g=>t0 _ _ (t1 _ _ (t2 _ _ (t3 _ _ (t4 _ _ (t5 _ _ (t6 _ _ (t7 _ _ (t8 _ _ (t9 _ _ (t10 _ _ (g))))))))))),fun b o g g'=>p1 _ _ g (s2 _ _ (g')),fun b o g g'=>p1 _ _ g (t2 _ _ (t3 _ _ (t4 _ _ (s5 _ _ (g'))))),fun b o g g'=>p1 _ _ g (t2 _ _ (t3 _ _ (t4 _ _ (t5 _ _ (s6 _ _ (g')))))),fun b o g g'=>p1 _ _ g (t2 _ _ (t3 _ _ (t4 _ _ (t5 _ _ (t6 _ _ (s7 _ _ (g'))))))),fun b o g g'=>p1 _ _ g (t2 _ _ (t3 _ _ (t4 _ _ (t5 _ _ (t6 _ _ (t7 _ _ (s8 _ _ (g')))))))),fun b o g g'=>p1 _ _ g (t2 _ _ (t3 _ _ (t4 _ _ (t5 _ _ (t6 _ _ (t7 _ _ (t8 _ _ (s9 _ _ (g'))))))))),fun b o g g'=>p1 _ _ g (t2 _ _ (t3 _ _ (t4 _ _ (t5 _ _ (t6 _ _ (t7 _ _ (t8 _ _ (t9 _ _ (s10 _ _ (g')))))))))),fun b o g g'=>p1 _ _ g (t2 _ _ (t3 _ _ (t4 _ _ (t5 _ _ (t6 _ _ (t7 _ _ (t8 _ _ (t9 _ _ (t10 _ _ (g')))))))))),fun b o g g'=>p2 _ _ g (t3 _ _ (t4 _ _ (s5 _ _ (g')))),fun b o g g'=>p2 _ _ g (t3 _ _ (t4 _ _ (t5 _ _ (s6 _ _ (g'))))),fun b o g g'=>p2 _ _ g (t3 _ _ (t4 _ _ (t5 _ _ (t6 _ _ (s7 _ _ (g')))))),fun b o g g'=>p2 _ _ g (t3 _ _ (t4 _ _ (t5 _ _ (t6 _ _ (t7 _ _ (s8 _ _ (g'))))))),fun b o g g'=>p2 _ _ g (t3 _ _ (t4 _ _ (t5 _ _ (t6 _ _ (t7 _ _ (t8 _ _ (s9 _ _ (g')))))))),fun b o g g'=>p2 _ _ g (t3 _ _ (t4 _ _ (t5 _ _ (t6 _ _ (t7 _ _ (t8 _ _ (t9 _ _ (s10 _ _ (g'))))))))),fun b o g g'=>p2 _ _ g (t3 _ _ (t4 _ _ (t5 _ _ (t6 _ _ (t7 _ _ (t8 _ _ (t9 _ _ (t10 _ _ (g'))))))))),fun b o g g'=>p5 _ _ g (s6 _ _ (g')),fun b o g g'=>p5 _ _ g (t6 _ _ (s7 _ _ (g'))),fun b o g g'=>p5 _ _ g (t6 _ _ (t7 _ _ (s8 _ _ (g')))),fun b o g g'=>p5 _ _ g (t6 _ _ (t7 _ _ (t8 _ _ (s9 _ _ (g'))))),fun b o g g'=>p5 _ _ g (t6 _ _ (t7 _ _ (t8 _ _ (t9 _ _ (s10 _ _ (g')))))),fun b o g g'=>p5 _ _ g (t6 _ _ (t7 _ _ (t8 _ _ (t9 _ _ (t10 _ _ (g')))))),fun b o g g'=>p6 _ _ g (s7 _ _ (g')),fun b o g g'=>p6 _ _ g (t7 _ _ (s8 _ _ (g'))),fun b o g g'=>p6 _ _ g (t7 _ _ (t8 _ _ (s9 _ _ (g')))),fun b o g g'=>p6 _ _ g (t7 _ _ (t8 _ _ (t9 _ _ (s10 _ _ (g'))))),fun b o g g'=>p6 _ _ g (t7 _ _ (t8 _ _ (t9 _ _ (t10 _ _ (g'))))),fun b o g g'=>p7 _ _ g (s8 _ _ (g')),fun b o g g'=>p7 _ _ g (t8 _ _ (s9 _ _ (g'))),fun b o g g'=>p7 _ _ g (t8 _ _ (t9 _ _ (s10 _ _ (g')))),fun b o g g'=>p7 _ _ g (t8 _ _ (t9 _ _ (t10 _ _ (g')))),fun b o g g'=>p8 _ _ g (s9 _ _ (g')),fun b o g g'=>p8 _ _ g (t9 _ _ (s10 _ _ (g'))),fun b o g g'=>p8 _ _ g (t9 _ _ (t10 _ _ (g'))),fun b o g g'=>p9 _ _ g (s10 _ _ (g')),fun b o g g'=>p9 _ _ g (t10 _ _ (g')),fun b o g g'=>p10 _ _ g (g')⟩
 ·rintro ⟨a0,n0,c0,a1,n1,c1,a2,n2,c2,a3,n3,c3,a4,n4,c4,a5,n5,c5,a6,n6,c6,a7,n7,c7,a8,n8,c8,G0,G1,G2,G3,G4,G5,G6,G7,G8,rfl,⟨x0,y0,l0⟩,⟨x1,y1,l1⟩,⟨x2,y2,l2⟩,⟨x3,y3,l3⟩,⟨x4,y4,l4⟩,⟨x5,y5,l5⟩,⟨x6,y6,l6⟩,⟨x7,y7,l7⟩,⟨x8,y8,l8⟩,h0,h1,h2,h3,h4,h5,h6,h7,h8,ap0_1,ap0_2,ap0_3,ap0_4,ap0_5,ap0_6,ap0_7,ap0_8,ap1_2,ap1_3,ap1_4,ap1_5,ap1_6,ap1_7,ap1_8,ap2_3,ap2_4,ap2_5,ap2_6,ap2_7,ap2_8,ap3_4,ap3_5,ap3_6,ap3_7,ap3_8,ap4_5,ap4_6,ap4_7,ap4_8,ap5_6,ap5_7,ap5_8,ap6_7,ap6_8,ap7_8⟩
  exact ⟨_,_,(fun _ _=>False),(fun b o=>G0 b o\/G1 b o\/G2 b o\/G3 b o\/G4 b o\/G5 b o\/G6 b o\/G7 b o\/G8 b o),rfl,rfl,⟨_,_,G0,(fun b o=>G1 b o\/G2 b o\/G3 b o\/G4 b o\/G5 b o\/G6 b o\/G7 b o\/G8 b o),rfl,⟨a0,n0,c0,rfl,x0,y0,l0⟩,⟨_,_,G1,(fun b o=>G2 b o\/G3 b o\/G4 b o\/G5 b o\/G6 b o\/G7 b o\/G8 b o),rfl,⟨a1,n1,c1,rfl,x1,y1,l1⟩,⟨_,_,(fun _ _=>False),(fun b o=>G2 b o\/G3 b o\/G4 b o\/G5 b o\/G6 b o\/G7 b o\/G8 b o),rfl,rfl,⟨_,_,(fun _ _=>False),(fun b o=>G2 b o\/G3 b o\/G4 b o\/G5 b o\/G6 b o\/G7 b o\/G8 b o),rfl,rfl,⟨_,_,G2,(fun b o=>G3 b o\/G4 b o\/G5 b o\/G6 b o\/G7 b o\/G8 b o),rfl,⟨a2,n2,c2,rfl,x2,y2,l2⟩,⟨_,_,G3,(fun b o=>G4 b o\/G5 b o\/G6 b o\/G7 b o\/G8 b o),rfl,⟨a3,n3,c3,rfl,x3,y3,l3⟩,⟨_,_,G4,(fun b o=>G5 b o\/G6 b o\/G7 b o\/G8 b o),rfl,⟨a4,n4,c4,rfl,x4,y4,l4⟩,⟨_,_,G5,(fun b o=>G6 b o\/G7 b o\/G8 b o),rfl,⟨a5,n5,c5,rfl,x5,y5,l5⟩,⟨_,_,G6,(fun b o=>G7 b o\/G8 b o),rfl,⟨a6,n6,c6,rfl,x6,y6,l6⟩,⟨_,_,G7,G8,rfl,⟨a7,n7,c7,rfl,x7,y7,l7⟩,Jb.2 ⟨a8,n8,c8,rfl,x8,y8,l8⟩,fun b o g=>Or.inl g,fun b o g=>Or.inr (g),ap7_8⟩,fun b o g=>Or.inl g,fun b o g=>by rcases g with g | g <;> simp [g],fun b o g g'=>by rcases g' with g' | g' <;> first | exact ap6_7 b o g g' | exact ap6_8 b o g g'⟩,fun b o g=>Or.inl g,fun b o g=>by rcases g with g | g | g <;> simp [g],fun b o g g'=>by rcases g' with g' | g' | g' <;> first | exact ap5_6 b o g g' | exact ap5_7 b o g g' | exact ap5_8 b o g g'⟩,fun b o g=>Or.inl g,fun b o g=>by rcases g with g | g | g | g <;> simp [g],fun b o g g'=>by rcases g' with g' | g' | g' | g' <;> first | exact ap4_5 b o g g' | exact ap4_6 b o g g' | exact ap4_7 b o g g' | exact ap4_8 b o g g'⟩,fun b o g=>Or.inl g,fun b o g=>by rcases g with g | g | g | g | g <;> simp [g],fun b o g g'=>by rcases g' with g' | g' | g' | g' | g' <;> first | exact ap3_4 b o g g' | exact ap3_5 b o g g' | exact ap3_6 b o g g' | exact ap3_7 b o g g' | exact ap3_8 b o g g'⟩,fun b o g=>Or.inl g,fun b o g=>by rcases g with g | g | g | g | g | g <;> simp [g],fun b o g g'=>by rcases g' with g' | g' | g' | g' | g' | g' <;> first | exact ap2_3 b o g g' | exact ap2_4 b o g g' | exact ap2_5 b o g g' | exact ap2_6 b o g g' | exact ap2_7 b o g g' | exact ap2_8 b o g g'⟩,fun _ _ g=>g.elim,fun _ _ g=>g,fun _ _ g=>g.elim⟩,fun _ _ g=>g.elim,fun _ _ g=>g,fun _ _ g=>g.elim⟩,fun b o g=>Or.inl g,fun b o g=>by rcases g with g | g | g | g | g | g | g <;> simp [g],fun b o g g'=>by rcases g' with g' | g' | g' | g' | g' | g' | g' <;> first | exact ap1_2 b o g g' | exact ap1_3 b o g g' | exact ap1_4 b o g g' | exact ap1_5 b o g g' | exact ap1_6 b o g g' | exact ap1_7 b o g g' | exact ap1_8 b o g g'⟩,fun b o g=>Or.inl g,fun b o g=>by rcases g with g | g | g | g | g | g | g | g <;> simp [g],fun b o g g'=>by rcases g' with g' | g' | g' | g' | g' | g' | g' | g' <;> first | exact ap0_1 b o g g' | exact ap0_2 b o g g' | exact ap0_3 b o g g' | exact ap0_4 b o g g' | exact ap0_5 b o g g' | exact ap0_6 b o g g' | exact ap0_7 b o g g' | exact ap0_8 b o g g'⟩,fun _ _ g=>g.elim,fun b o g=>by rcases g with g | g | g | g | g | g | g | g | g <;> first | exact h0 b o g | exact h1 b o g | exact h2 b o g | exact h3 b o g | exact h4 b o g | exact h5 b o g | exact h6 b o g | exact h7 b o g | exact h8 b o g,fun _ _ g=>g.elim⟩
theorem Qol (w:World) (B:Nat) (es:List Value) (x:Qq) (h:Qd.reads (Qf B) w es x) (hB:B<=w.heap.size) (hb:Qd.bulk x<=1048576) :
  Calls Tryz.prog 22 #[.agg es.toArray] w fun e w' => ∃ es',e = .returned (.agg es'.toArray)/\Qg.owns (Zb w.heap.size w'.heap.size) w' es' x/\Below w.heap.size w w':=by
 obtain ⟨a0,n0,c0,a1,n1,c1,a2,n2,c2,a3,n3,c3,a4,n4,c4,a5,n5,c5,a6,n6,c6,a7,n7,c7,a8,n8,c8,rfl,⟨p0,r0,l0⟩,⟨p1,r1,l1⟩,⟨p2,r2,l2⟩,⟨p3,r3,l3⟩,⟨p4,r4,l4⟩,⟨p5,r5,l5⟩,⟨p6,r6,l6⟩,⟨p7,r7,l7⟩,⟨p8,r8,l8⟩⟩:=Qn.1 h
 rw [Q2] at hb
 have m0:n0<=1048576:=by have:=Qh Z1 l0;omega
 have H0:=Lib.hid fun (w1:World) (hbw:Below w.heap.size w w1)=>Qp2 w1 B a0 n0 c0 _ (l0.below hbw hB) (Nat.le_trans hB hbw.size) (by omega)
 have m1:n1<=1048576:=by have:=Qh shOp l1;omega
 have H1:=Lib.hid fun (w1:World) (hbw:Below w.heap.size w w1)=>Qq9 w1 B a1 n1 c1 _ (l1.below hbw hB) (Nat.le_trans hB hbw.size) (by omega)
 have m2:n2<=1048576:=by have:=Qh Qc l2;omega
 have H2:=Lib.hid fun (w1:World) (hbw:Below w.heap.size w w1)=>Qmp w1 B a2 n2 c2 _ (l2.below hbw hB) (Nat.le_trans hB hbw.size) (by omega)
 have m3:n3<=1048576:=by have:=Qh Qi l3;omega
 have H3:=Lib.hid fun (w1:World) (hbw:Below w.heap.size w w1)=>Qh6 w1 B a3 n3 c3 _ (l3.below hbw hB) (Nat.le_trans hB hbw.size) (by omega)
 have m4:n4<=1048576:=by have:=Qh Shape.int l4;omega
 have H4:=Lib.hid fun (w1:World) (hbw:Below w.heap.size w w1)=>Qbf w1 B a4 n4 c4 _ (l4.below hbw hB) (Nat.le_trans hB hbw.size) (by omega)
 have m5:n5<=1048576:=by have:=Qh Shape.int l5;omega
 have H5:=Lib.hid fun (w1:World) (hbw:Below w.heap.size w w1)=>Qbf w1 B a5 n5 c5 _ (l5.below hbw hB) (Nat.le_trans hB hbw.size) (by omega)
 have m6:n6<=1048576:=by have:=Qh Shape.int l6;omega
 have H6:=Lib.hid fun (w1:World) (hbw:Below w.heap.size w w1)=>Qbf w1 B a6 n6 c6 _ (l6.below hbw hB) (Nat.le_trans hB hbw.size) (by omega)
 have m7:n7<=1048576:=by have:=Qh Shape.int l7;omega
 have H7:=Lib.hid fun (w1:World) (hbw:Below w.heap.size w w1)=>Qbf w1 B a7 n7 c7 _ (l7.below hbw hB) (Nat.le_trans hB hbw.size) (by omega)
 have m8:n8<=1048576:=by have:=Qh Qi l8;omega
 have H8:=Lib.hid fun (w1:World) (hbw:Below w.heap.size w w1)=>Qod w1 B [.slice a8 n8 c8,.int .i64 x.2.2.2.2.2.2.2.2.2.2.2.2.1,.bool x.2.2.2.2.2.2.2.2.2.2.2.2.2] x.2.2.2.2.2.2.2.2.2.2.2 (Q6.2 ⟨_,_,_,rfl,p8,r8,l8.below hbw hB⟩) (Nat.le_trans hB hbw.size) (by rw [Zh];omega)
 have hbx:=Boxes.start w #[.int .i64 x.1,.slice a0 n0 c0,.slice a1 n1 c1,.bool x.2.2.2.1,.bool x.2.2.2.2.1,.slice a2 n2 c2,.slice a3 n3 c3,.slice a4 n4 c4,.slice a5 n5 c5,.slice a6 n6 c6,.slice a7 n7 c7,.slice a8 n8 c8,.int .i64 x.2.2.2.2.2.2.2.2.2.2.2.2.1,.bool x.2.2.2.2.2.2.2.2.2.2.2.2.2] #[.int .i64 0,.slice none 0 0,.slice none 0 0,.bool false,.bool false,.slice none 0 0,.slice none 0 0,.slice none 0 0,.slice none 0 0,.slice none 0 0,.slice none 0 0,.slice none 0 0,.int .i64 0,.bool false] #[.int .i64 x.1,.slice none 0 0,.slice none 0 0,.bool false,.bool false,.slice none 0 0,.slice none 0 0,.slice none 0 0,.slice none 0 0,.slice none 0 0,.slice none 0 0,.slice none 0 0,.int .i64 0,.bool false] 56 32
 clear h hb l0 r0 p0 l1 r1 p1 l2 r2 p2 l3 r3 p3 l4 r4 p4 l5 r5 p5 l6 r6 p6 l7 r7 p7 l8 r8 p8
 go_enter Tryz.func22,Tryz.ntmps22
 go_wp2_with fail
 generalize ((w.alloc (.cells #[.int .i64 x.1,.slice a0 n0 c0,.slice a1 n1 c1,.bool x.2.2.2.1,.bool x.2.2.2.2.1,.slice a2 n2 c2,.slice a3 n3 c3,.slice a4 n4 c4,.slice a5 n5 c5,.slice a6 n6 c6,.slice a7 n7 c7,.slice a8 n8 c8,.int .i64 x.2.2.2.2.2.2.2.2.2.2.2.2.1,.bool x.2.2.2.2.2.2.2.2.2.2.2.2.2] 56 (0,0))).alloc (.cells #[.int .i64 0,.slice none 0 0,.slice none 0 0,.bool false,.bool false,.slice none 0 0,.slice none 0 0,.slice none 0 0,.slice none 0 0,.slice none 0 0,.slice none 0 0,.slice none 0 0,.int .i64 0,.bool false] 32 (0,0))).alloc (.cells #[.int .i64 x.1,.slice none 0 0,.slice none 0 0,.bool false,.bool false,.slice none 0 0,.slice none 0 0,.slice none 0 0,.slice none 0 0,.slice none 0 0,.slice none 0 0,.slice none 0 0,.int .i64 0,.bool false] 32 (0,0))=v0 at hbx |-
 have BX0:=Lib.hid hbx
 clear hbx
 refine (H0.out v0 BX0.out.below).mono ?_
 rintro e w1 ⟨rfl,hr0,hb0⟩
 have hbx:=BX0.out.call hb0
 have sb0:=hb0.size
 have hlt0:=BX0.out.size
 have za0_2:w1.cell? ⟨w.heap.size,2,none⟩=_:=cell_of_row _ _ _ _ _ _ hbx.a
 have zo0_1:w1.cell? ⟨w.heap.size+1+1,1,none⟩=_:=cell_of_row _ _ _ _ _ _ hbx.o
 have fo0_1:w1.frozen? ⟨w.heap.size+1+1,1,none⟩=false:=frozen_of_row _ _ _ _ _ hbx.o
 simp only [List.setIfInBounds_toArray,List.set_cons_zero,List.set_cons_succ,List.getElem?_toArray,List.getElem?_cons_zero,List.getElem?_cons_succ] at za0_2 zo0_1
 have N0_0:=hr0
 have hby:=(hbx.store 1 (.slice (some ⟨v0.heap.size,0,none⟩) n0 n0))
 have O0_0:=(N0_0.stored (w.heap.size+1+1) 1 (.slice (some ⟨v0.heap.size,0,none⟩) n0 n0) (by omega))
 replace hb0:=Lib.hid hb0
 replace hby:=Lib.hid hby
 replace O0_0:=Lib.hid O0_0
 clear N0_0
 clear hr0 hbx
 go_wp2_with fail
 clear za0_2 zo0_1 fo0_1
 have hv1:w1.heap.size<=(w1.setCell ⟨w.heap.size+1+1,1,none⟩ (.slice (some ⟨v0.heap.size,0,none⟩) n0 n0)).heap.size:=by simp
 generalize (w1.setCell ⟨w.heap.size+1+1,1,none⟩ (.slice (some ⟨v0.heap.size,0,none⟩) n0 n0))=v1 at hby hv1 O0_0 |-
 have BX1:=hby
 have M0_0:=O0_0
 clear O0_0 hby
 refine (H1.out v1 BX1.out.below).mono ?_
 rintro e w2 ⟨rfl,hr1,hb1⟩
 have hbx:=BX1.out.call hb1
 have sb1:=hb1.size
 have hlt1:=BX1.out.size
 have za1_3:w2.cell? ⟨w.heap.size,3,none⟩=_:=cell_of_row _ _ _ _ _ _ hbx.a
 have za1_4:w2.cell? ⟨w.heap.size,4,none⟩=_:=cell_of_row _ _ _ _ _ _ hbx.a
 have za1_5:w2.cell? ⟨w.heap.size,5,none⟩=_:=cell_of_row _ _ _ _ _ _ hbx.a
 have zo1_2:w2.cell? ⟨w.heap.size+1+1,2,none⟩=_:=cell_of_row _ _ _ _ _ _ hbx.o
 have zo1_3:w2.cell? ⟨w.heap.size+1+1,3,none⟩=_:=cell_of_row _ _ _ _ _ _ hbx.o
 have zo1_4:w2.cell? ⟨w.heap.size+1+1,4,none⟩=_:=cell_of_row _ _ _ _ _ _ hbx.o
 have fo1_2:w2.frozen? ⟨w.heap.size+1+1,2,none⟩=false:=frozen_of_row _ _ _ _ _ hbx.o
 have fo1_3:w2.frozen? ⟨w.heap.size+1+1,3,none⟩=false:=frozen_of_row _ _ _ _ _ hbx.o
 have fo1_4:w2.frozen? ⟨w.heap.size+1+1,4,none⟩=false:=frozen_of_row _ _ _ _ _ hbx.o
 simp only [List.setIfInBounds_toArray,List.set_cons_zero,List.set_cons_succ,List.getElem?_toArray,List.getElem?_cons_zero,List.getElem?_cons_succ] at za1_3 za1_4 za1_5 zo1_2 zo1_3 zo1_4
 have N0_1:=M0_0.out.called hb1 (by omega)
 have N1_1:=hr1
 have hby:=(((hbx.store 2 (.slice (some ⟨v1.heap.size,0,none⟩) n1 n1)).store 3 (.bool x.2.2.2.1)).store 4 (.bool x.2.2.2.2.1))
 have O0_1:=(((N0_1.stored (w.heap.size+1+1) 2 (.slice (some ⟨v1.heap.size,0,none⟩) n1 n1) (by omega)).stored (w.heap.size+1+1) 3 (.bool x.2.2.2.1) (by omega)).stored (w.heap.size+1+1) 4 (.bool x.2.2.2.2.1) (by omega))
 have O1_1:=(((N1_1.stored (w.heap.size+1+1) 2 (.slice (some ⟨v1.heap.size,0,none⟩) n1 n1) (by omega)).stored (w.heap.size+1+1) 3 (.bool x.2.2.2.1) (by omega)).stored (w.heap.size+1+1) 4 (.bool x.2.2.2.2.1) (by omega))
 replace hb1:=Lib.hid hb1
 replace hby:=Lib.hid hby
 replace O0_1:=Lib.hid O0_1
 clear N0_1
 replace O1_1:=Lib.hid O1_1
 clear N1_1
 clear hr1 hbx
 go_wp2_with fail
 clear za1_3 za1_4 za1_5 zo1_2 fo1_2 zo1_3 fo1_3 zo1_4 fo1_4
 have hv2:w2.heap.size<=(((w2.setCell ⟨w.heap.size+1+1,2,none⟩ (.slice (some ⟨v1.heap.size,0,none⟩) n1 n1)).setCell ⟨w.heap.size+1+1,3,none⟩ (.bool x.2.2.2.1)).setCell ⟨w.heap.size+1+1,4,none⟩ (.bool x.2.2.2.2.1)).heap.size:=by simp
 generalize (((w2.setCell ⟨w.heap.size+1+1,2,none⟩ (.slice (some ⟨v1.heap.size,0,none⟩) n1 n1)).setCell ⟨w.heap.size+1+1,3,none⟩ (.bool x.2.2.2.1)).setCell ⟨w.heap.size+1+1,4,none⟩ (.bool x.2.2.2.2.1))=v2 at hby hv2 O0_1 O1_1 |-
 have BX2:=hby
 have M0_1:=O0_1
 have M1_1:=O1_1
 clear O0_1 O1_1 hby
 refine (H2.out v2 BX2.out.below).mono ?_
 rintro e w3 ⟨rfl,hr2,hb2⟩
 have hbx:=BX2.out.call hb2
 have sb2:=hb2.size
 have hlt2:=BX2.out.size
 have za2_6:w3.cell? ⟨w.heap.size,6,none⟩=_:=cell_of_row _ _ _ _ _ _ hbx.a
 have zo2_5:w3.cell? ⟨w.heap.size+1+1,5,none⟩=_:=cell_of_row _ _ _ _ _ _ hbx.o
 have fo2_5:w3.frozen? ⟨w.heap.size+1+1,5,none⟩=false:=frozen_of_row _ _ _ _ _ hbx.o
 simp only [List.setIfInBounds_toArray,List.set_cons_zero,List.set_cons_succ,List.getElem?_toArray,List.getElem?_cons_zero,List.getElem?_cons_succ] at za2_6 zo2_5
 have N0_2:=M0_1.out.called hb2 (by omega)
 have N1_2:=M1_1.out.called hb2 (by omega)
 have N2_2:=hr2
 have hby:=(hbx.store 5 (.slice (some ⟨v2.heap.size,0,none⟩) n2 n2))
 have O0_2:=(N0_2.stored (w.heap.size+1+1) 5 (.slice (some ⟨v2.heap.size,0,none⟩) n2 n2) (by omega))
 have O1_2:=(N1_2.stored (w.heap.size+1+1) 5 (.slice (some ⟨v2.heap.size,0,none⟩) n2 n2) (by omega))
 have O2_2:=(N2_2.stored (w.heap.size+1+1) 5 (.slice (some ⟨v2.heap.size,0,none⟩) n2 n2) (by omega))
 replace hb2:=Lib.hid hb2
 replace hby:=Lib.hid hby
 replace O0_2:=Lib.hid O0_2
 clear N0_2
 replace O1_2:=Lib.hid O1_2
 clear N1_2
 replace O2_2:=Lib.hid O2_2
 clear N2_2
 clear hr2 hbx
 go_wp2_with fail
 clear za2_6 zo2_5 fo2_5
 have hv3:w3.heap.size<=(w3.setCell ⟨w.heap.size+1+1,5,none⟩ (.slice (some ⟨v2.heap.size,0,none⟩) n2 n2)).heap.size:=by simp
 generalize (w3.setCell ⟨w.heap.size+1+1,5,none⟩ (.slice (some ⟨v2.heap.size,0,none⟩) n2 n2))=v3 at hby hv3 O0_2 O1_2 O2_2 |-
 have BX3:=hby
 have M0_2:=O0_2
 have M1_2:=O1_2
 have M2_2:=O2_2
 clear O0_2 O1_2 O2_2 hby
 refine (H3.out v3 BX3.out.below).mono ?_
 rintro e w4 ⟨rfl,hr3,hb3⟩
 have hbx:=BX3.out.call hb3
 have sb3:=hb3.size
 have hlt3:=BX3.out.size
 have za3_7:w4.cell? ⟨w.heap.size,7,none⟩=_:=cell_of_row _ _ _ _ _ _ hbx.a
 have zo3_6:w4.cell? ⟨w.heap.size+1+1,6,none⟩=_:=cell_of_row _ _ _ _ _ _ hbx.o
 have fo3_6:w4.frozen? ⟨w.heap.size+1+1,6,none⟩=false:=frozen_of_row _ _ _ _ _ hbx.o
 simp only [List.setIfInBounds_toArray,List.set_cons_zero,List.set_cons_succ,List.getElem?_toArray,List.getElem?_cons_zero,List.getElem?_cons_succ] at za3_7 zo3_6
 have N0_3:=M0_2.out.called hb3 (by omega)
 have N1_3:=M1_2.out.called hb3 (by omega)
 have N2_3:=M2_2.out.called hb3 (by omega)
 have N3_3:=hr3
 have hby:=(hbx.store 6 (.slice (some ⟨v3.heap.size,0,none⟩) n3 n3))
 have O0_3:=(N0_3.stored (w.heap.size+1+1) 6 (.slice (some ⟨v3.heap.size,0,none⟩) n3 n3) (by omega))
 have O1_3:=(N1_3.stored (w.heap.size+1+1) 6 (.slice (some ⟨v3.heap.size,0,none⟩) n3 n3) (by omega))
 have O2_3:=(N2_3.stored (w.heap.size+1+1) 6 (.slice (some ⟨v3.heap.size,0,none⟩) n3 n3) (by omega))
 have O3_3:=(N3_3.stored (w.heap.size+1+1) 6 (.slice (some ⟨v3.heap.size,0,none⟩) n3 n3) (by omega))
 replace hb3:=Lib.hid hb3
 replace hby:=Lib.hid hby
 replace O0_3:=Lib.hid O0_3
 clear N0_3
 replace O1_3:=Lib.hid O1_3
 clear N1_3
 replace O2_3:=Lib.hid O2_3
 clear N2_3
 replace O3_3:=Lib.hid O3_3
 clear N3_3
 clear hr3 hbx
 go_wp2_with fail
 clear za3_7 zo3_6 fo3_6
 have hv4:w4.heap.size<=(w4.setCell ⟨w.heap.size+1+1,6,none⟩ (.slice (some ⟨v3.heap.size,0,none⟩) n3 n3)).heap.size:=by simp
 generalize (w4.setCell ⟨w.heap.size+1+1,6,none⟩ (.slice (some ⟨v3.heap.size,0,none⟩) n3 n3))=v4 at hby hv4 O0_3 O1_3 O2_3 O3_3 |-
 have BX4:=hby
 have M0_3:=O0_3
 have M1_3:=O1_3
 have M2_3:=O2_3
 have M3_3:=O3_3
 clear O0_3 O1_3 O2_3 O3_3 hby
 refine (H4.out v4 BX4.out.below).mono ?_
 rintro e w5 ⟨rfl,hr4,hb4⟩
 have hbx:=BX4.out.call hb4
 have sb4:=hb4.size
 have hlt4:=BX4.out.size
 have za4_8:w5.cell? ⟨w.heap.size,8,none⟩=_:=cell_of_row _ _ _ _ _ _ hbx.a
 have zo4_7:w5.cell? ⟨w.heap.size+1+1,7,none⟩=_:=cell_of_row _ _ _ _ _ _ hbx.o
 have fo4_7:w5.frozen? ⟨w.heap.size+1+1,7,none⟩=false:=frozen_of_row _ _ _ _ _ hbx.o
 simp only [List.setIfInBounds_toArray,List.set_cons_zero,List.set_cons_succ,List.getElem?_toArray,List.getElem?_cons_zero,List.getElem?_cons_succ] at za4_8 zo4_7
 have N0_4:=M0_3.out.called hb4 (by omega)
 have N1_4:=M1_3.out.called hb4 (by omega)
 have N2_4:=M2_3.out.called hb4 (by omega)
 have N3_4:=M3_3.out.called hb4 (by omega)
 have N4_4:=hr4
 have hby:=(hbx.store 7 (.slice (some ⟨v4.heap.size,0,none⟩) n4 n4))
 have O0_4:=(N0_4.stored (w.heap.size+1+1) 7 (.slice (some ⟨v4.heap.size,0,none⟩) n4 n4) (by omega))
 have O1_4:=(N1_4.stored (w.heap.size+1+1) 7 (.slice (some ⟨v4.heap.size,0,none⟩) n4 n4) (by omega))
 have O2_4:=(N2_4.stored (w.heap.size+1+1) 7 (.slice (some ⟨v4.heap.size,0,none⟩) n4 n4) (by omega))
 have O3_4:=(N3_4.stored (w.heap.size+1+1) 7 (.slice (some ⟨v4.heap.size,0,none⟩) n4 n4) (by omega))
 have O4_4:=(N4_4.stored (w.heap.size+1+1) 7 (.slice (some ⟨v4.heap.size,0,none⟩) n4 n4) (by omega))
 replace hb4:=Lib.hid hb4
 replace hby:=Lib.hid hby
 replace O0_4:=Lib.hid O0_4
 clear N0_4
 replace O1_4:=Lib.hid O1_4
 clear N1_4
 replace O2_4:=Lib.hid O2_4
 clear N2_4
 replace O3_4:=Lib.hid O3_4
 clear N3_4
 replace O4_4:=Lib.hid O4_4
 clear N4_4
 clear hr4 hbx
 go_wp2_with fail
 clear za4_8 zo4_7 fo4_7
 have hv5:w5.heap.size<=(w5.setCell ⟨w.heap.size+1+1,7,none⟩ (.slice (some ⟨v4.heap.size,0,none⟩) n4 n4)).heap.size:=by simp
 generalize (w5.setCell ⟨w.heap.size+1+1,7,none⟩ (.slice (some ⟨v4.heap.size,0,none⟩) n4 n4))=v5 at hby hv5 O0_4 O1_4 O2_4 O3_4 O4_4 |-
 have BX5:=hby
 have M0_4:=O0_4
 have M1_4:=O1_4
 have M2_4:=O2_4
 have M3_4:=O3_4
 have M4_4:=O4_4
 clear O0_4 O1_4 O2_4 O3_4 O4_4 hby
 refine (H5.out v5 BX5.out.below).mono ?_
 rintro e w6 ⟨rfl,hr5,hb5⟩
 have hbx:=BX5.out.call hb5
 have sb5:=hb5.size
 have hlt5:=BX5.out.size
 have za5_9:w6.cell? ⟨w.heap.size,9,none⟩=_:=cell_of_row _ _ _ _ _ _ hbx.a
 have zo5_8:w6.cell? ⟨w.heap.size+1+1,8,none⟩=_:=cell_of_row _ _ _ _ _ _ hbx.o
 have fo5_8:w6.frozen? ⟨w.heap.size+1+1,8,none⟩=false:=frozen_of_row _ _ _ _ _ hbx.o
 simp only [List.setIfInBounds_toArray,List.set_cons_zero,List.set_cons_succ,List.getElem?_toArray,List.getElem?_cons_zero,List.getElem?_cons_succ] at za5_9 zo5_8
 have N0_5:=M0_4.out.called hb5 (by omega)
 have N1_5:=M1_4.out.called hb5 (by omega)
 have N2_5:=M2_4.out.called hb5 (by omega)
 have N3_5:=M3_4.out.called hb5 (by omega)
 have N4_5:=M4_4.out.called hb5 (by omega)
 have N5_5:=hr5
 have hby:=(hbx.store 8 (.slice (some ⟨v5.heap.size,0,none⟩) n5 n5))
 have O0_5:=(N0_5.stored (w.heap.size+1+1) 8 (.slice (some ⟨v5.heap.size,0,none⟩) n5 n5) (by omega))
 have O1_5:=(N1_5.stored (w.heap.size+1+1) 8 (.slice (some ⟨v5.heap.size,0,none⟩) n5 n5) (by omega))
 have O2_5:=(N2_5.stored (w.heap.size+1+1) 8 (.slice (some ⟨v5.heap.size,0,none⟩) n5 n5) (by omega))
 have O3_5:=(N3_5.stored (w.heap.size+1+1) 8 (.slice (some ⟨v5.heap.size,0,none⟩) n5 n5) (by omega))
 have O4_5:=(N4_5.stored (w.heap.size+1+1) 8 (.slice (some ⟨v5.heap.size,0,none⟩) n5 n5) (by omega))
 have O5_5:=(N5_5.stored (w.heap.size+1+1) 8 (.slice (some ⟨v5.heap.size,0,none⟩) n5 n5) (by omega))
 replace hb5:=Lib.hid hb5
 replace hby:=Lib.hid hby
 replace O0_5:=Lib.hid O0_5
 clear N0_5
 replace O1_5:=Lib.hid O1_5
 clear N1_5
 replace O2_5:=Lib.hid O2_5
 clear N2_5
 replace O3_5:=Lib.hid O3_5
 clear N3_5
 replace O4_5:=Lib.hid O4_5
 clear N4_5
 replace O5_5:=Lib.hid O5_5
 clear N5_5
 clear hr5 hbx
 go_wp2_with fail
 clear za5_9 zo5_8 fo5_8
 have hv6:w6.heap.size<=(w6.setCell ⟨w.heap.size+1+1,8,none⟩ (.slice (some ⟨v5.heap.size,0,none⟩) n5 n5)).heap.size:=by simp
 generalize (w6.setCell ⟨w.heap.size+1+1,8,none⟩ (.slice (some ⟨v5.heap.size,0,none⟩) n5 n5))=v6 at hby hv6 O0_5 O1_5 O2_5 O3_5 O4_5 O5_5 |-
 have BX6:=hby
 have M0_5:=O0_5
 have M1_5:=O1_5
 have M2_5:=O2_5
 have M3_5:=O3_5
 have M4_5:=O4_5
 have M5_5:=O5_5
 clear O0_5 O1_5 O2_5 O3_5 O4_5 O5_5 hby
 refine (H6.out v6 BX6.out.below).mono ?_
 rintro e w7 ⟨rfl,hr6,hb6⟩
 have hbx:=BX6.out.call hb6
 have sb6:=hb6.size
 have hlt6:=BX6.out.size
 have za6_10:w7.cell? ⟨w.heap.size,10,none⟩=_:=cell_of_row _ _ _ _ _ _ hbx.a
 have zo6_9:w7.cell? ⟨w.heap.size+1+1,9,none⟩=_:=cell_of_row _ _ _ _ _ _ hbx.o
 have fo6_9:w7.frozen? ⟨w.heap.size+1+1,9,none⟩=false:=frozen_of_row _ _ _ _ _ hbx.o
 simp only [List.setIfInBounds_toArray,List.set_cons_zero,List.set_cons_succ,List.getElem?_toArray,List.getElem?_cons_zero,List.getElem?_cons_succ] at za6_10 zo6_9
 have N0_6:=M0_5.out.called hb6 (by omega)
 have N1_6:=M1_5.out.called hb6 (by omega)
 have N2_6:=M2_5.out.called hb6 (by omega)
 have N3_6:=M3_5.out.called hb6 (by omega)
 have N4_6:=M4_5.out.called hb6 (by omega)
 have N5_6:=M5_5.out.called hb6 (by omega)
 have N6_6:=hr6
 have hby:=(hbx.store 9 (.slice (some ⟨v6.heap.size,0,none⟩) n6 n6))
 have O0_6:=(N0_6.stored (w.heap.size+1+1) 9 (.slice (some ⟨v6.heap.size,0,none⟩) n6 n6) (by omega))
 have O1_6:=(N1_6.stored (w.heap.size+1+1) 9 (.slice (some ⟨v6.heap.size,0,none⟩) n6 n6) (by omega))
 have O2_6:=(N2_6.stored (w.heap.size+1+1) 9 (.slice (some ⟨v6.heap.size,0,none⟩) n6 n6) (by omega))
 have O3_6:=(N3_6.stored (w.heap.size+1+1) 9 (.slice (some ⟨v6.heap.size,0,none⟩) n6 n6) (by omega))
 have O4_6:=(N4_6.stored (w.heap.size+1+1) 9 (.slice (some ⟨v6.heap.size,0,none⟩) n6 n6) (by omega))
 have O5_6:=(N5_6.stored (w.heap.size+1+1) 9 (.slice (some ⟨v6.heap.size,0,none⟩) n6 n6) (by omega))
 have O6_6:=(N6_6.stored (w.heap.size+1+1) 9 (.slice (some ⟨v6.heap.size,0,none⟩) n6 n6) (by omega))
 replace hb6:=Lib.hid hb6
 replace hby:=Lib.hid hby
 replace O0_6:=Lib.hid O0_6
 clear N0_6
 replace O1_6:=Lib.hid O1_6
 clear N1_6
 replace O2_6:=Lib.hid O2_6
 clear N2_6
 replace O3_6:=Lib.hid O3_6
 clear N3_6
 replace O4_6:=Lib.hid O4_6
 clear N4_6
 replace O5_6:=Lib.hid O5_6
 clear N5_6
 replace O6_6:=Lib.hid O6_6
 clear N6_6
 clear hr6 hbx
 go_wp2_with fail
 clear za6_10 zo6_9 fo6_9
 have hv7:w7.heap.size<=(w7.setCell ⟨w.heap.size+1+1,9,none⟩ (.slice (some ⟨v6.heap.size,0,none⟩) n6 n6)).heap.size:=by simp
 generalize (w7.setCell ⟨w.heap.size+1+1,9,none⟩ (.slice (some ⟨v6.heap.size,0,none⟩) n6 n6))=v7 at hby hv7 O0_6 O1_6 O2_6 O3_6 O4_6 O5_6 O6_6 |-
 have BX7:=hby
 have M0_6:=O0_6
 have M1_6:=O1_6
 have M2_6:=O2_6
 have M3_6:=O3_6
 have M4_6:=O4_6
 have M5_6:=O5_6
 have M6_6:=O6_6
 clear O0_6 O1_6 O2_6 O3_6 O4_6 O5_6 O6_6 hby
 refine (H7.out v7 BX7.out.below).mono ?_
 rintro e w8 ⟨rfl,hr7,hb7⟩
 have hbx:=BX7.out.call hb7
 have sb7:=hb7.size
 have hlt7:=BX7.out.size
 have za7_11:w8.cell? ⟨w.heap.size,11,none⟩=_:=cell_of_row _ _ _ _ _ _ hbx.a
 have za7_12:w8.cell? ⟨w.heap.size,12,none⟩=_:=cell_of_row _ _ _ _ _ _ hbx.a
 have za7_13:w8.cell? ⟨w.heap.size,13,none⟩=_:=cell_of_row _ _ _ _ _ _ hbx.a
 have zo7_10:w8.cell? ⟨w.heap.size+1+1,10,none⟩=_:=cell_of_row _ _ _ _ _ _ hbx.o
 have fo7_10:w8.frozen? ⟨w.heap.size+1+1,10,none⟩=false:=frozen_of_row _ _ _ _ _ hbx.o
 simp only [List.setIfInBounds_toArray,List.set_cons_zero,List.set_cons_succ,List.getElem?_toArray,List.getElem?_cons_zero,List.getElem?_cons_succ] at za7_11 za7_12 za7_13 zo7_10
 have N0_7:=M0_6.out.called hb7 (by omega)
 have N1_7:=M1_6.out.called hb7 (by omega)
 have N2_7:=M2_6.out.called hb7 (by omega)
 have N3_7:=M3_6.out.called hb7 (by omega)
 have N4_7:=M4_6.out.called hb7 (by omega)
 have N5_7:=M5_6.out.called hb7 (by omega)
 have N6_7:=M6_6.out.called hb7 (by omega)
 have N7_7:=hr7
 have hby:=(hbx.store 10 (.slice (some ⟨v7.heap.size,0,none⟩) n7 n7))
 have O0_7:=(N0_7.stored (w.heap.size+1+1) 10 (.slice (some ⟨v7.heap.size,0,none⟩) n7 n7) (by omega))
 have O1_7:=(N1_7.stored (w.heap.size+1+1) 10 (.slice (some ⟨v7.heap.size,0,none⟩) n7 n7) (by omega))
 have O2_7:=(N2_7.stored (w.heap.size+1+1) 10 (.slice (some ⟨v7.heap.size,0,none⟩) n7 n7) (by omega))
 have O3_7:=(N3_7.stored (w.heap.size+1+1) 10 (.slice (some ⟨v7.heap.size,0,none⟩) n7 n7) (by omega))
 have O4_7:=(N4_7.stored (w.heap.size+1+1) 10 (.slice (some ⟨v7.heap.size,0,none⟩) n7 n7) (by omega))
 have O5_7:=(N5_7.stored (w.heap.size+1+1) 10 (.slice (some ⟨v7.heap.size,0,none⟩) n7 n7) (by omega))
 have O6_7:=(N6_7.stored (w.heap.size+1+1) 10 (.slice (some ⟨v7.heap.size,0,none⟩) n7 n7) (by omega))
 have O7_7:=(N7_7.stored (w.heap.size+1+1) 10 (.slice (some ⟨v7.heap.size,0,none⟩) n7 n7) (by omega))
 replace hb7:=Lib.hid hb7
 replace hby:=Lib.hid hby
 replace O0_7:=Lib.hid O0_7
 clear N0_7
 replace O1_7:=Lib.hid O1_7
 clear N1_7
 replace O2_7:=Lib.hid O2_7
 clear N2_7
 replace O3_7:=Lib.hid O3_7
 clear N3_7
 replace O4_7:=Lib.hid O4_7
 clear N4_7
 replace O5_7:=Lib.hid O5_7
 clear N5_7
 replace O6_7:=Lib.hid O6_7
 clear N6_7
 replace O7_7:=Lib.hid O7_7
 clear N7_7
 clear hr7 hbx
 go_wp2_with fail
 clear za7_11 za7_12 za7_13 zo7_10 fo7_10
 have hv8:w8.heap.size<=(w8.setCell ⟨w.heap.size+1+1,10,none⟩ (.slice (some ⟨v7.heap.size,0,none⟩) n7 n7)).heap.size:=by simp
 generalize (w8.setCell ⟨w.heap.size+1+1,10,none⟩ (.slice (some ⟨v7.heap.size,0,none⟩) n7 n7))=v8 at hby hv8 O0_7 O1_7 O2_7 O3_7 O4_7 O5_7 O6_7 O7_7 |-
 have BX8:=hby
 have M0_7:=O0_7
 have M1_7:=O1_7
 have M2_7:=O2_7
 have M3_7:=O3_7
 have M4_7:=O4_7
 have M5_7:=O5_7
 have M6_7:=O6_7
 have M7_7:=O7_7
 clear O0_7 O1_7 O2_7 O3_7 O4_7 O5_7 O6_7 O7_7 hby
 refine (H8.out v8 BX8.out.below).mono ?_
 rintro e w9 ⟨es',rfl,hr',hb8⟩
 obtain ⟨a8',n8',c8',rfl,p8',r8',hr8⟩:=Jb.1 hr'
 clear hr'
 have hbx:=BX8.out.call hb8
 have sb8:=hb8.size
 have hlt8:=BX8.out.size
 have zo8_0:w9.cell? ⟨w.heap.size+1+1,0,none⟩=_:=cell_of_row _ _ _ _ _ _ hbx.o
 have zo8_1:w9.cell? ⟨w.heap.size+1+1,1,none⟩=_:=cell_of_row _ _ _ _ _ _ hbx.o
 have zo8_2:w9.cell? ⟨w.heap.size+1+1,2,none⟩=_:=cell_of_row _ _ _ _ _ _ hbx.o
 have zo8_3:w9.cell? ⟨w.heap.size+1+1,3,none⟩=_:=cell_of_row _ _ _ _ _ _ hbx.o
 have zo8_4:w9.cell? ⟨w.heap.size+1+1,4,none⟩=_:=cell_of_row _ _ _ _ _ _ hbx.o
 have zo8_5:w9.cell? ⟨w.heap.size+1+1,5,none⟩=_:=cell_of_row _ _ _ _ _ _ hbx.o
 have zo8_6:w9.cell? ⟨w.heap.size+1+1,6,none⟩=_:=cell_of_row _ _ _ _ _ _ hbx.o
 have zo8_7:w9.cell? ⟨w.heap.size+1+1,7,none⟩=_:=cell_of_row _ _ _ _ _ _ hbx.o
 have zo8_8:w9.cell? ⟨w.heap.size+1+1,8,none⟩=_:=cell_of_row _ _ _ _ _ _ hbx.o
 have zo8_9:w9.cell? ⟨w.heap.size+1+1,9,none⟩=_:=cell_of_row _ _ _ _ _ _ hbx.o
 have zo8_10:w9.cell? ⟨w.heap.size+1+1,10,none⟩=_:=cell_of_row _ _ _ _ _ _ hbx.o
 have zo8_11:w9.cell? ⟨w.heap.size+1+1,11,none⟩=_:=cell_of_row _ _ _ _ _ _ hbx.o
 have zo8_12:w9.cell? ⟨w.heap.size+1+1,12,none⟩=_:=cell_of_row _ _ _ _ _ _ hbx.o
 have zo8_13:w9.cell? ⟨w.heap.size+1+1,13,none⟩=_:=cell_of_row _ _ _ _ _ _ hbx.o
 have zr8_0:w9.cell? ⟨w.heap.size+1,0,none⟩=_:=cell_of_row _ _ _ _ _ _ hbx.z
 have zr8_1:w9.cell? ⟨w.heap.size+1,1,none⟩=_:=cell_of_row _ _ _ _ _ _ hbx.z
 have zr8_2:w9.cell? ⟨w.heap.size+1,2,none⟩=_:=cell_of_row _ _ _ _ _ _ hbx.z
 have zr8_3:w9.cell? ⟨w.heap.size+1,3,none⟩=_:=cell_of_row _ _ _ _ _ _ hbx.z
 have zr8_4:w9.cell? ⟨w.heap.size+1,4,none⟩=_:=cell_of_row _ _ _ _ _ _ hbx.z
 have zr8_5:w9.cell? ⟨w.heap.size+1,5,none⟩=_:=cell_of_row _ _ _ _ _ _ hbx.z
 have zr8_6:w9.cell? ⟨w.heap.size+1,6,none⟩=_:=cell_of_row _ _ _ _ _ _ hbx.z
 have zr8_7:w9.cell? ⟨w.heap.size+1,7,none⟩=_:=cell_of_row _ _ _ _ _ _ hbx.z
 have zr8_8:w9.cell? ⟨w.heap.size+1,8,none⟩=_:=cell_of_row _ _ _ _ _ _ hbx.z
 have zr8_9:w9.cell? ⟨w.heap.size+1,9,none⟩=_:=cell_of_row _ _ _ _ _ _ hbx.z
 have zr8_10:w9.cell? ⟨w.heap.size+1,10,none⟩=_:=cell_of_row _ _ _ _ _ _ hbx.z
 have zr8_11:w9.cell? ⟨w.heap.size+1,11,none⟩=_:=cell_of_row _ _ _ _ _ _ hbx.z
 have zr8_12:w9.cell? ⟨w.heap.size+1,12,none⟩=_:=cell_of_row _ _ _ _ _ _ hbx.z
 have zr8_13:w9.cell? ⟨w.heap.size+1,13,none⟩=_:=cell_of_row _ _ _ _ _ _ hbx.z
 have fo8_0:w9.frozen? ⟨w.heap.size+1+1,0,none⟩=false:=frozen_of_row _ _ _ _ _ hbx.o
 have fo8_1:w9.frozen? ⟨w.heap.size+1+1,1,none⟩=false:=frozen_of_row _ _ _ _ _ hbx.o
 have fo8_2:w9.frozen? ⟨w.heap.size+1+1,2,none⟩=false:=frozen_of_row _ _ _ _ _ hbx.o
 have fo8_3:w9.frozen? ⟨w.heap.size+1+1,3,none⟩=false:=frozen_of_row _ _ _ _ _ hbx.o
 have fo8_4:w9.frozen? ⟨w.heap.size+1+1,4,none⟩=false:=frozen_of_row _ _ _ _ _ hbx.o
 have fo8_5:w9.frozen? ⟨w.heap.size+1+1,5,none⟩=false:=frozen_of_row _ _ _ _ _ hbx.o
 have fo8_6:w9.frozen? ⟨w.heap.size+1+1,6,none⟩=false:=frozen_of_row _ _ _ _ _ hbx.o
 have fo8_7:w9.frozen? ⟨w.heap.size+1+1,7,none⟩=false:=frozen_of_row _ _ _ _ _ hbx.o
 have fo8_8:w9.frozen? ⟨w.heap.size+1+1,8,none⟩=false:=frozen_of_row _ _ _ _ _ hbx.o
 have fo8_9:w9.frozen? ⟨w.heap.size+1+1,9,none⟩=false:=frozen_of_row _ _ _ _ _ hbx.o
 have fo8_10:w9.frozen? ⟨w.heap.size+1+1,10,none⟩=false:=frozen_of_row _ _ _ _ _ hbx.o
 have fo8_11:w9.frozen? ⟨w.heap.size+1+1,11,none⟩=false:=frozen_of_row _ _ _ _ _ hbx.o
 have fo8_12:w9.frozen? ⟨w.heap.size+1+1,12,none⟩=false:=frozen_of_row _ _ _ _ _ hbx.o
 have fo8_13:w9.frozen? ⟨w.heap.size+1+1,13,none⟩=false:=frozen_of_row _ _ _ _ _ hbx.o
 have fr8_0:w9.frozen? ⟨w.heap.size+1,0,none⟩=false:=frozen_of_row _ _ _ _ _ hbx.z
 have fr8_1:w9.frozen? ⟨w.heap.size+1,1,none⟩=false:=frozen_of_row _ _ _ _ _ hbx.z
 have fr8_2:w9.frozen? ⟨w.heap.size+1,2,none⟩=false:=frozen_of_row _ _ _ _ _ hbx.z
 have fr8_3:w9.frozen? ⟨w.heap.size+1,3,none⟩=false:=frozen_of_row _ _ _ _ _ hbx.z
 have fr8_4:w9.frozen? ⟨w.heap.size+1,4,none⟩=false:=frozen_of_row _ _ _ _ _ hbx.z
 have fr8_5:w9.frozen? ⟨w.heap.size+1,5,none⟩=false:=frozen_of_row _ _ _ _ _ hbx.z
 have fr8_6:w9.frozen? ⟨w.heap.size+1,6,none⟩=false:=frozen_of_row _ _ _ _ _ hbx.z
 have fr8_7:w9.frozen? ⟨w.heap.size+1,7,none⟩=false:=frozen_of_row _ _ _ _ _ hbx.z
 have fr8_8:w9.frozen? ⟨w.heap.size+1,8,none⟩=false:=frozen_of_row _ _ _ _ _ hbx.z
 have fr8_9:w9.frozen? ⟨w.heap.size+1,9,none⟩=false:=frozen_of_row _ _ _ _ _ hbx.z
 have fr8_10:w9.frozen? ⟨w.heap.size+1,10,none⟩=false:=frozen_of_row _ _ _ _ _ hbx.z
 have fr8_11:w9.frozen? ⟨w.heap.size+1,11,none⟩=false:=frozen_of_row _ _ _ _ _ hbx.z
 have fr8_12:w9.frozen? ⟨w.heap.size+1,12,none⟩=false:=frozen_of_row _ _ _ _ _ hbx.z
 have fr8_13:w9.frozen? ⟨w.heap.size+1,13,none⟩=false:=frozen_of_row _ _ _ _ _ hbx.z
 simp only [List.setIfInBounds_toArray,List.set_cons_zero,List.set_cons_succ,List.getElem?_toArray,List.getElem?_cons_zero,List.getElem?_cons_succ] at zo8_0 zo8_1 zo8_2 zo8_3 zo8_4 zo8_5 zo8_6 zo8_7 zo8_8 zo8_9 zo8_10 zo8_11 zo8_12 zo8_13 zr8_0 zr8_1 zr8_2 zr8_3 zr8_4 zr8_5 zr8_6 zr8_7 zr8_8 zr8_9 zr8_10 zr8_11 zr8_12 zr8_13
 have N0_8:=M0_7.out.called hb8 (by omega)
 have N1_8:=M1_7.out.called hb8 (by omega)
 have N2_8:=M2_7.out.called hb8 (by omega)
 have N3_8:=M3_7.out.called hb8 (by omega)
 have N4_8:=M4_7.out.called hb8 (by omega)
 have N5_8:=M5_7.out.called hb8 (by omega)
 have N6_8:=M6_7.out.called hb8 (by omega)
 have N7_8:=M7_7.out.called hb8 (by omega)
 have N8_8:=hr8
 have hby:=(((hbx.store 11 (.slice a8' n8' c8')).store 12 (.int .i64 x.2.2.2.2.2.2.2.2.2.2.2.2.1)).store 13 (.bool x.2.2.2.2.2.2.2.2.2.2.2.2.2))
 have O0_8:=(((N0_8.stored (w.heap.size+1+1) 11 (.slice a8' n8' c8') (by omega)).stored (w.heap.size+1+1) 12 (.int .i64 x.2.2.2.2.2.2.2.2.2.2.2.2.1) (by omega)).stored (w.heap.size+1+1) 13 (.bool x.2.2.2.2.2.2.2.2.2.2.2.2.2) (by omega))
 have O1_8:=(((N1_8.stored (w.heap.size+1+1) 11 (.slice a8' n8' c8') (by omega)).stored (w.heap.size+1+1) 12 (.int .i64 x.2.2.2.2.2.2.2.2.2.2.2.2.1) (by omega)).stored (w.heap.size+1+1) 13 (.bool x.2.2.2.2.2.2.2.2.2.2.2.2.2) (by omega))
 have O2_8:=(((N2_8.stored (w.heap.size+1+1) 11 (.slice a8' n8' c8') (by omega)).stored (w.heap.size+1+1) 12 (.int .i64 x.2.2.2.2.2.2.2.2.2.2.2.2.1) (by omega)).stored (w.heap.size+1+1) 13 (.bool x.2.2.2.2.2.2.2.2.2.2.2.2.2) (by omega))
 have O3_8:=(((N3_8.stored (w.heap.size+1+1) 11 (.slice a8' n8' c8') (by omega)).stored (w.heap.size+1+1) 12 (.int .i64 x.2.2.2.2.2.2.2.2.2.2.2.2.1) (by omega)).stored (w.heap.size+1+1) 13 (.bool x.2.2.2.2.2.2.2.2.2.2.2.2.2) (by omega))
 have O4_8:=(((N4_8.stored (w.heap.size+1+1) 11 (.slice a8' n8' c8') (by omega)).stored (w.heap.size+1+1) 12 (.int .i64 x.2.2.2.2.2.2.2.2.2.2.2.2.1) (by omega)).stored (w.heap.size+1+1) 13 (.bool x.2.2.2.2.2.2.2.2.2.2.2.2.2) (by omega))
 have O5_8:=(((N5_8.stored (w.heap.size+1+1) 11 (.slice a8' n8' c8') (by omega)).stored (w.heap.size+1+1) 12 (.int .i64 x.2.2.2.2.2.2.2.2.2.2.2.2.1) (by omega)).stored (w.heap.size+1+1) 13 (.bool x.2.2.2.2.2.2.2.2.2.2.2.2.2) (by omega))
 have O6_8:=(((N6_8.stored (w.heap.size+1+1) 11 (.slice a8' n8' c8') (by omega)).stored (w.heap.size+1+1) 12 (.int .i64 x.2.2.2.2.2.2.2.2.2.2.2.2.1) (by omega)).stored (w.heap.size+1+1) 13 (.bool x.2.2.2.2.2.2.2.2.2.2.2.2.2) (by omega))
 have O7_8:=(((N7_8.stored (w.heap.size+1+1) 11 (.slice a8' n8' c8') (by omega)).stored (w.heap.size+1+1) 12 (.int .i64 x.2.2.2.2.2.2.2.2.2.2.2.2.1) (by omega)).stored (w.heap.size+1+1) 13 (.bool x.2.2.2.2.2.2.2.2.2.2.2.2.2) (by omega))
 have O8_8:=(((N8_8.stored (w.heap.size+1+1) 11 (.slice a8' n8' c8') (by omega)).stored (w.heap.size+1+1) 12 (.int .i64 x.2.2.2.2.2.2.2.2.2.2.2.2.1) (by omega)).stored (w.heap.size+1+1) 13 (.bool x.2.2.2.2.2.2.2.2.2.2.2.2.2) (by omega))
 replace hby:=Lib.hid hby
 replace O0_8:=Lib.hid O0_8
 clear N0_8
 replace O1_8:=Lib.hid O1_8
 clear N1_8
 replace O2_8:=Lib.hid O2_8
 clear N2_8
 replace O3_8:=Lib.hid O3_8
 clear N3_8
 replace O4_8:=Lib.hid O4_8
 clear N4_8
 replace O5_8:=Lib.hid O5_8
 clear N5_8
 replace O6_8:=Lib.hid O6_8
 clear N6_8
 replace O7_8:=Lib.hid O7_8
 clear N7_8
 replace O8_8:=Lib.hid O8_8
 clear N8_8
 clear hr8 hbx hb8
 go_wp2_with fail
 refine bodyPost_ret (results_cell_row rfl _ _ (w.heap.size+1) 32 #[.int .i64 x.1,.slice (some ⟨v0.heap.size,0,none⟩) n0 n0,.slice (some ⟨v1.heap.size,0,none⟩) n1 n1,.bool x.2.2.2.1,.bool x.2.2.2.2.1,.slice (some ⟨v2.heap.size,0,none⟩) n2 n2,.slice (some ⟨v3.heap.size,0,none⟩) n3 n3,.slice (some ⟨v4.heap.size,0,none⟩) n4 n4,.slice (some ⟨v5.heap.size,0,none⟩) n5 n5,.slice (some ⟨v6.heap.size,0,none⟩) n6 n6,.slice (some ⟨v7.heap.size,0,none⟩) n7 n7,.slice a8' n8' c8',.int .i64 x.2.2.2.2.2.2.2.2.2.2.2.2.1,.bool x.2.2.2.2.2.2.2.2.2.2.2.2.2] (0,0) _ rfl ?_ Tryz.underlying32 rfl (by kernel_rfl)) rfl ?_
 ·exact hby.out.result [.int .i64 x.1,.slice (some ⟨v0.heap.size,0,none⟩) n0 n0,.slice (some ⟨v1.heap.size,0,none⟩) n1 n1,.bool x.2.2.2.1,.bool x.2.2.2.2.1,.slice (some ⟨v2.heap.size,0,none⟩) n2 n2,.slice (some ⟨v3.heap.size,0,none⟩) n3 n3,.slice (some ⟨v4.heap.size,0,none⟩) n4 n4,.slice (some ⟨v5.heap.size,0,none⟩) n5 n5,.slice (some ⟨v6.heap.size,0,none⟩) n6 n6,.slice (some ⟨v7.heap.size,0,none⟩) n7 n7,.slice a8' n8' c8',.int .i64 x.2.2.2.2.2.2.2.2.2.2.2.2.1,.bool x.2.2.2.2.2.2.2.2.2.2.2.2.2] rfl
 refine ⟨[.int .i64 x.1,.slice (some ⟨v0.heap.size,0,none⟩) n0 n0,.slice (some ⟨v1.heap.size,0,none⟩) n1 n1,.bool x.2.2.2.1,.bool x.2.2.2.2.1,.slice (some ⟨v2.heap.size,0,none⟩) n2 n2,.slice (some ⟨v3.heap.size,0,none⟩) n3 n3,.slice (some ⟨v4.heap.size,0,none⟩) n4 n4,.slice (some ⟨v5.heap.size,0,none⟩) n5 n5,.slice (some ⟨v6.heap.size,0,none⟩) n6 n6,.slice (some ⟨v7.heap.size,0,none⟩) n7 n7,.slice a8' n8' c8',.int .i64 x.2.2.2.2.2.2.2.2.2.2.2.2.1,.bool x.2.2.2.2.2.2.2.2.2.2.2.2.2],rfl,?_,hby.out.last [.int .i64 x.1,.slice (some ⟨v0.heap.size,0,none⟩) n0 n0,.slice (some ⟨v1.heap.size,0,none⟩) n1 n1,.bool x.2.2.2.1,.bool x.2.2.2.2.1,.slice (some ⟨v2.heap.size,0,none⟩) n2 n2,.slice (some ⟨v3.heap.size,0,none⟩) n3 n3,.slice (some ⟨v4.heap.size,0,none⟩) n4 n4,.slice (some ⟨v5.heap.size,0,none⟩) n5 n5,.slice (some ⟨v6.heap.size,0,none⟩) n6 n6,.slice (some ⟨v7.heap.size,0,none⟩) n7 n7,.slice a8' n8' c8',.int .i64 x.2.2.2.2.2.2.2.2.2.2.2.2.1,.bool x.2.2.2.2.2.2.2.2.2.2.2.2.2]⟩
 refine Jp.2 ⟨_,_,_,_,_,_,_,_,_,_,_,_,_,_,_,_,_,_,_,_,_,_,_,_,_,_,_,Zb v0.heap.size w1.heap.size,Zb v1.heap.size w2.heap.size,Zb v2.heap.size w3.heap.size,Zb v3.heap.size w4.heap.size,Zb v4.heap.size w5.heap.size,Zb v5.heap.size w6.heap.size,Zb v6.heap.size w7.heap.size,Zb v7.heap.size w8.heap.size,Zb v8.heap.size w9.heap.size,rfl,⟨Nat.le_refl _,by omega,(O0_8.out.storedAll (w.heap.size+1) 0 [.int .i64 x.1,.slice (some ⟨v0.heap.size,0,none⟩) n0 n0,.slice (some ⟨v1.heap.size,0,none⟩) n1 n1,.bool x.2.2.2.1,.bool x.2.2.2.2.1,.slice (some ⟨v2.heap.size,0,none⟩) n2 n2,.slice (some ⟨v3.heap.size,0,none⟩) n3 n3,.slice (some ⟨v4.heap.size,0,none⟩) n4 n4,.slice (some ⟨v5.heap.size,0,none⟩) n5 n5,.slice (some ⟨v6.heap.size,0,none⟩) n6 n6,.slice (some ⟨v7.heap.size,0,none⟩) n7 n7,.slice a8' n8' c8',.int .i64 x.2.2.2.2.2.2.2.2.2.2.2.2.1,.bool x.2.2.2.2.2.2.2.2.2.2.2.2.2] (by omega))⟩,⟨Nat.le_refl _,by omega,(O1_8.out.storedAll (w.heap.size+1) 0 [.int .i64 x.1,.slice (some ⟨v0.heap.size,0,none⟩) n0 n0,.slice (some ⟨v1.heap.size,0,none⟩) n1 n1,.bool x.2.2.2.1,.bool x.2.2.2.2.1,.slice (some ⟨v2.heap.size,0,none⟩) n2 n2,.slice (some ⟨v3.heap.size,0,none⟩) n3 n3,.slice (some ⟨v4.heap.size,0,none⟩) n4 n4,.slice (some ⟨v5.heap.size,0,none⟩) n5 n5,.slice (some ⟨v6.heap.size,0,none⟩) n6 n6,.slice (some ⟨v7.heap.size,0,none⟩) n7 n7,.slice a8' n8' c8',.int .i64 x.2.2.2.2.2.2.2.2.2.2.2.2.1,.bool x.2.2.2.2.2.2.2.2.2.2.2.2.2] (by omega))⟩,⟨Nat.le_refl _,by omega,(O2_8.out.storedAll (w.heap.size+1) 0 [.int .i64 x.1,.slice (some ⟨v0.heap.size,0,none⟩) n0 n0,.slice (some ⟨v1.heap.size,0,none⟩) n1 n1,.bool x.2.2.2.1,.bool x.2.2.2.2.1,.slice (some ⟨v2.heap.size,0,none⟩) n2 n2,.slice (some ⟨v3.heap.size,0,none⟩) n3 n3,.slice (some ⟨v4.heap.size,0,none⟩) n4 n4,.slice (some ⟨v5.heap.size,0,none⟩) n5 n5,.slice (some ⟨v6.heap.size,0,none⟩) n6 n6,.slice (some ⟨v7.heap.size,0,none⟩) n7 n7,.slice a8' n8' c8',.int .i64 x.2.2.2.2.2.2.2.2.2.2.2.2.1,.bool x.2.2.2.2.2.2.2.2.2.2.2.2.2] (by omega))⟩,⟨Nat.le_refl _,by omega,(O3_8.out.storedAll (w.heap.size+1) 0 [.int .i64 x.1,.slice (some ⟨v0.heap.size,0,none⟩) n0 n0,.slice (some ⟨v1.heap.size,0,none⟩) n1 n1,.bool x.2.2.2.1,.bool x.2.2.2.2.1,.slice (some ⟨v2.heap.size,0,none⟩) n2 n2,.slice (some ⟨v3.heap.size,0,none⟩) n3 n3,.slice (some ⟨v4.heap.size,0,none⟩) n4 n4,.slice (some ⟨v5.heap.size,0,none⟩) n5 n5,.slice (some ⟨v6.heap.size,0,none⟩) n6 n6,.slice (some ⟨v7.heap.size,0,none⟩) n7 n7,.slice a8' n8' c8',.int .i64 x.2.2.2.2.2.2.2.2.2.2.2.2.1,.bool x.2.2.2.2.2.2.2.2.2.2.2.2.2] (by omega))⟩,⟨Nat.le_refl _,by omega,(O4_8.out.storedAll (w.heap.size+1) 0 [.int .i64 x.1,.slice (some ⟨v0.heap.size,0,none⟩) n0 n0,.slice (some ⟨v1.heap.size,0,none⟩) n1 n1,.bool x.2.2.2.1,.bool x.2.2.2.2.1,.slice (some ⟨v2.heap.size,0,none⟩) n2 n2,.slice (some ⟨v3.heap.size,0,none⟩) n3 n3,.slice (some ⟨v4.heap.size,0,none⟩) n4 n4,.slice (some ⟨v5.heap.size,0,none⟩) n5 n5,.slice (some ⟨v6.heap.size,0,none⟩) n6 n6,.slice (some ⟨v7.heap.size,0,none⟩) n7 n7,.slice a8' n8' c8',.int .i64 x.2.2.2.2.2.2.2.2.2.2.2.2.1,.bool x.2.2.2.2.2.2.2.2.2.2.2.2.2] (by omega))⟩,⟨Nat.le_refl _,by omega,(O5_8.out.storedAll (w.heap.size+1) 0 [.int .i64 x.1,.slice (some ⟨v0.heap.size,0,none⟩) n0 n0,.slice (some ⟨v1.heap.size,0,none⟩) n1 n1,.bool x.2.2.2.1,.bool x.2.2.2.2.1,.slice (some ⟨v2.heap.size,0,none⟩) n2 n2,.slice (some ⟨v3.heap.size,0,none⟩) n3 n3,.slice (some ⟨v4.heap.size,0,none⟩) n4 n4,.slice (some ⟨v5.heap.size,0,none⟩) n5 n5,.slice (some ⟨v6.heap.size,0,none⟩) n6 n6,.slice (some ⟨v7.heap.size,0,none⟩) n7 n7,.slice a8' n8' c8',.int .i64 x.2.2.2.2.2.2.2.2.2.2.2.2.1,.bool x.2.2.2.2.2.2.2.2.2.2.2.2.2] (by omega))⟩,⟨Nat.le_refl _,by omega,(O6_8.out.storedAll (w.heap.size+1) 0 [.int .i64 x.1,.slice (some ⟨v0.heap.size,0,none⟩) n0 n0,.slice (some ⟨v1.heap.size,0,none⟩) n1 n1,.bool x.2.2.2.1,.bool x.2.2.2.2.1,.slice (some ⟨v2.heap.size,0,none⟩) n2 n2,.slice (some ⟨v3.heap.size,0,none⟩) n3 n3,.slice (some ⟨v4.heap.size,0,none⟩) n4 n4,.slice (some ⟨v5.heap.size,0,none⟩) n5 n5,.slice (some ⟨v6.heap.size,0,none⟩) n6 n6,.slice (some ⟨v7.heap.size,0,none⟩) n7 n7,.slice a8' n8' c8',.int .i64 x.2.2.2.2.2.2.2.2.2.2.2.2.1,.bool x.2.2.2.2.2.2.2.2.2.2.2.2.2] (by omega))⟩,⟨Nat.le_refl _,by omega,(O7_8.out.storedAll (w.heap.size+1) 0 [.int .i64 x.1,.slice (some ⟨v0.heap.size,0,none⟩) n0 n0,.slice (some ⟨v1.heap.size,0,none⟩) n1 n1,.bool x.2.2.2.1,.bool x.2.2.2.2.1,.slice (some ⟨v2.heap.size,0,none⟩) n2 n2,.slice (some ⟨v3.heap.size,0,none⟩) n3 n3,.slice (some ⟨v4.heap.size,0,none⟩) n4 n4,.slice (some ⟨v5.heap.size,0,none⟩) n5 n5,.slice (some ⟨v6.heap.size,0,none⟩) n6 n6,.slice (some ⟨v7.heap.size,0,none⟩) n7 n7,.slice a8' n8' c8',.int .i64 x.2.2.2.2.2.2.2.2.2.2.2.2.1,.bool x.2.2.2.2.2.2.2.2.2.2.2.2.2] (by omega))⟩,⟨p8',r8',(O8_8.out.storedAll (w.heap.size+1) 0 [.int .i64 x.1,.slice (some ⟨v0.heap.size,0,none⟩) n0 n0,.slice (some ⟨v1.heap.size,0,none⟩) n1 n1,.bool x.2.2.2.1,.bool x.2.2.2.2.1,.slice (some ⟨v2.heap.size,0,none⟩) n2 n2,.slice (some ⟨v3.heap.size,0,none⟩) n3 n3,.slice (some ⟨v4.heap.size,0,none⟩) n4 n4,.slice (some ⟨v5.heap.size,0,none⟩) n5 n5,.slice (some ⟨v6.heap.size,0,none⟩) n6 n6,.slice (some ⟨v7.heap.size,0,none⟩) n7 n7,.slice a8' n8' c8',.int .i64 x.2.2.2.2.2.2.2.2.2.2.2.2.1,.bool x.2.2.2.2.2.2.2.2.2.2.2.2.2] (by omega))⟩,fun b o f=>⟨by have:=f.1;omega,by have h2:=f.2;simp;omega⟩,fun b o f=>⟨by have:=f.1;omega,by have h2:=f.2;simp;omega⟩,fun b o f=>⟨by have:=f.1;omega,by have h2:=f.2;simp;omega⟩,fun b o f=>⟨by have:=f.1;omega,by have h2:=f.2;simp;omega⟩,fun b o f=>⟨by have:=f.1;omega,by have h2:=f.2;simp;omega⟩,fun b o f=>⟨by have:=f.1;omega,by have h2:=f.2;simp;omega⟩,fun b o f=>⟨by have:=f.1;omega,by have h2:=f.2;simp;omega⟩,fun b o f=>⟨by have:=f.1;omega,by have h2:=f.2;simp;omega⟩,fun b o f=>⟨by have:=f.1;omega,by have h2:=f.2;simp;omega⟩,Qj (by omega),Qj (by omega),Qj (by omega),Qj (by omega),Qj (by omega),Qj (by omega),Qj (by omega),Qj (by omega),Qj (by omega),Qj (by omega),Qj (by omega),Qj (by omega),Qj (by omega),Qj (by omega),Qj (by omega),Qj (by omega),Qj (by omega),Qj (by omega),Qj (by omega),Qj (by omega),Qj (by omega),Qj (by omega),Qj (by omega),Qj (by omega),Qj (by omega),Qj (by omega),Qj (by omega),Qj (by omega),Qj (by omega),Qj (by omega),Qj (by omega),Qj (by omega),Qj (by omega),Qj (by omega),Qj (by omega),Qj (by omega)⟩
end Go.Proofs.YtcooobnaocbdjaaGreatDoor
