import Derived.Test.YtcooobnaocbdjaaGreatDoorJoin5
import Derived.Test.YtcooobnaocbdjaaGreatDoorJoin4
import Derived.Test.YtcooobnaocbdjaaGreatDoorJoin10
import Derived.Test.YtcooobnaocbdjaaGreatDoorJoin22
/-! YtcooobnaocbdjaaGreatDoorPOwnT -/
section
set_option maxRecDepth 100000
set_option maxHeartbeats 6400000
set_option linter.unusedSimpArgs false
set_option linter.unusedVariables false
namespace Go.Proofs.YtcooobnaocbdjaaGreatDoor
open Go.RowKit Go.Sort
theorem Qbf (w:World) (B:Nat) (a:Option Addr) (n c:Nat) (xs:List Int) (h:Qb Shape.int (Qf B) w a n xs) (hB:B<=w.heap.size) (hb:(Shape.list Shape.int).bulk xs<=1048576) :
  Calls Tryz.prog 23 #[.slice a n c] w fun e w'=>e = .returned (.slice (some ⟨w.heap.size,0,none⟩) n n)/\Qk Owned.int (Zb w.heap.size w'.heap.size) w' (some ⟨w.heap.size,0,none⟩) n xs/\Below w.heap.size w w':=by
 rw [Ql,h.1] at hb
 refine (Qgl B w a n c xs (h.ints hb) hB).mono ?_
 rintro e w' ⟨rfl,hr,hbw⟩
 obtain ⟨a',n',c',e',_,_,hr'⟩:=hr.own
 cases e'
 exact ⟨rfl,hr',hbw⟩
def ownOp:Owned dOp:= .struct (.cons Owned.int (.cons Owned.int (.cons Owned.int (.last (Owned.list Owned.int (by decide))))))
theorem Qaz:ownOp.size=4:=rfl
theorem Qbv {F:Foot} {w:World} {cs:List Value} {d:dOp}:ownOp.owns F w cs d ↔ ∃ a0 n0 c0,cs=[.int .i64 d.1,.int .i64 d.2.1,.int .i64 d.2.2.1,.slice a0 n0 c0]/\(n0<=c0/\c0<=9223372036854775807/\Qk Owned.int F w a0 n0 d.2.2.2):=by
 constructor
 ·rintro ⟨_,_,A0,B0,rfl,rfl,⟨_,_,A1,B1,rfl,rfl,⟨_,_,A2,B2,rfl,rfl,⟨a0,n0,c0,rfl,x0,y0,l0⟩,s2,t2,p2⟩,s1,t1,p1⟩,s0,t0,p0⟩
  exact ⟨a0,n0,c0,rfl,x0,y0,l0.sub fun b o g=>t0 _ _ (t1 _ _ (t2 _ _ (g)))⟩
 ·rintro ⟨a0,n0,c0,rfl,x0,y0,l0⟩
  exact ⟨_,_,(fun _ _=>False),F,rfl,rfl,⟨_,_,(fun _ _=>False),F,rfl,rfl,⟨_,_,(fun _ _=>False),F,rfl,rfl,⟨a0,n0,c0,rfl,x0,y0,l0⟩,fun _ _ g=>g.elim,fun _ _ g=>g,fun _ _ g=>g.elim⟩,fun _ _ g=>g.elim,fun _ _ g=>g,fun _ _ g=>g.elim⟩,fun _ _ g=>g.elim,fun _ _ g=>g,fun _ _ g=>g.elim⟩
theorem Qsa (w:World) (B:Nat) (es:List Value) (x:dOp) (h:shOp.reads (Qf B) w es x) (hB:B<=w.heap.size) (hb:shOp.bulk x<=1048576) :
  Calls Tryz.prog 173 #[.agg es.toArray] w fun e w' => ∃ es',e = .returned (.agg es'.toArray)/\ownOp.owns (Zb w.heap.size w'.heap.size) w' es' x/\Below w.heap.size w w':=by
 obtain ⟨a0,n0,c0,rfl,⟨p0,r0,l0⟩⟩:=Q3.1 h
 rw [Z6] at hb
 have m0:n0<=1048576:=by have:=Qh Shape.int l0;omega
 have H0:=Lib.hid fun (w1:World) (hbw:Below w.heap.size w w1)=>Qbf w1 B a0 n0 c0 _ (l0.below hbw hB) (Nat.le_trans hB hbw.size) (by omega)
 have hbx:=Boxes.start w #[.int .i64 x.1,.int .i64 x.2.1,.int .i64 x.2.2.1,.slice a0 n0 c0] #[.int .i64 0,.int .i64 0,.int .i64 0,.slice none 0 0] #[.int .i64 x.1,.int .i64 x.2.1,.int .i64 x.2.2.1,.slice none 0 0] 216 38
 clear h hb l0 r0 p0
 go_enter Tryz.func173,Tryz.ntmps173
 go_wp2_with fail
 generalize ((w.alloc (.cells #[.int .i64 x.1,.int .i64 x.2.1,.int .i64 x.2.2.1,.slice a0 n0 c0] 216 (0,0))).alloc (.cells #[.int .i64 0,.int .i64 0,.int .i64 0,.slice none 0 0] 38 (0,0))).alloc (.cells #[.int .i64 x.1,.int .i64 x.2.1,.int .i64 x.2.2.1,.slice none 0 0] 38 (0,0))=v0 at hbx |-
 have BX0:=Lib.hid hbx
 clear hbx
 refine (H0.out v0 BX0.out.below).mono ?_
 rintro e w1 ⟨rfl,hr0,hb0⟩
 have hbx:=BX0.out.call hb0
 have sb0:=hb0.size
 have hlt0:=BX0.out.size
 have za0_0:w1.cell? ⟨w.heap.size,0,none⟩=_:=cell_of_row _ _ _ _ _ _ hbx.a
 have za0_1:w1.cell? ⟨w.heap.size,1,none⟩=_:=cell_of_row _ _ _ _ _ _ hbx.a
 have za0_2:w1.cell? ⟨w.heap.size,2,none⟩=_:=cell_of_row _ _ _ _ _ _ hbx.a
 have za0_3:w1.cell? ⟨w.heap.size,3,none⟩=_:=cell_of_row _ _ _ _ _ _ hbx.a
 have zo0_0:w1.cell? ⟨w.heap.size+1+1,0,none⟩=_:=cell_of_row _ _ _ _ _ _ hbx.o
 have zo0_1:w1.cell? ⟨w.heap.size+1+1,1,none⟩=_:=cell_of_row _ _ _ _ _ _ hbx.o
 have zo0_2:w1.cell? ⟨w.heap.size+1+1,2,none⟩=_:=cell_of_row _ _ _ _ _ _ hbx.o
 have zo0_3:w1.cell? ⟨w.heap.size+1+1,3,none⟩=_:=cell_of_row _ _ _ _ _ _ hbx.o
 have zr0_0:w1.cell? ⟨w.heap.size+1,0,none⟩=_:=cell_of_row _ _ _ _ _ _ hbx.z
 have zr0_1:w1.cell? ⟨w.heap.size+1,1,none⟩=_:=cell_of_row _ _ _ _ _ _ hbx.z
 have zr0_2:w1.cell? ⟨w.heap.size+1,2,none⟩=_:=cell_of_row _ _ _ _ _ _ hbx.z
 have zr0_3:w1.cell? ⟨w.heap.size+1,3,none⟩=_:=cell_of_row _ _ _ _ _ _ hbx.z
 have fo0_0:w1.frozen? ⟨w.heap.size+1+1,0,none⟩=false:=frozen_of_row _ _ _ _ _ hbx.o
 have fr0_0:w1.frozen? ⟨w.heap.size+1,0,none⟩=false:=frozen_of_row _ _ _ _ _ hbx.z
 have fo0_1:w1.frozen? ⟨w.heap.size+1+1,1,none⟩=false:=frozen_of_row _ _ _ _ _ hbx.o
 have fr0_1:w1.frozen? ⟨w.heap.size+1,1,none⟩=false:=frozen_of_row _ _ _ _ _ hbx.z
 have fo0_2:w1.frozen? ⟨w.heap.size+1+1,2,none⟩=false:=frozen_of_row _ _ _ _ _ hbx.o
 have fr0_2:w1.frozen? ⟨w.heap.size+1,2,none⟩=false:=frozen_of_row _ _ _ _ _ hbx.z
 have fo0_3:w1.frozen? ⟨w.heap.size+1+1,3,none⟩=false:=frozen_of_row _ _ _ _ _ hbx.o
 have fr0_3:w1.frozen? ⟨w.heap.size+1,3,none⟩=false:=frozen_of_row _ _ _ _ _ hbx.z
 simp only [List.setIfInBounds_toArray,List.set_cons_zero,List.set_cons_succ,List.getElem?_toArray,List.getElem?_cons_zero,List.getElem?_cons_succ] at za0_0 zo0_0 zr0_0 za0_1 zo0_1 zr0_1 za0_2 zo0_2 zr0_2 za0_3 zo0_3 zr0_3
 have N0_0:=hr0
 have hby:=(hbx.store 3 (.slice (some ⟨v0.heap.size,0,none⟩) n0 n0))
 have O0_0:=(N0_0.stored (w.heap.size+1+1) 3 (.slice (some ⟨v0.heap.size,0,none⟩) n0 n0) (by omega))
 replace hby:=Lib.hid hby
 replace O0_0:=Lib.hid O0_0
 clear N0_0
 clear hr0 hbx hb0
 go_wp2_with fail
 refine bodyPost_ret (results_cell_row rfl _ _ (w.heap.size+1) 38 #[.int .i64 x.1,.int .i64 x.2.1,.int .i64 x.2.2.1,.slice (some ⟨v0.heap.size,0,none⟩) n0 n0] (0,0) _ rfl ?_ Tryz.underlying38 rfl (by kernel_rfl)) rfl ?_
 ·exact hby.out.result [.int .i64 x.1,.int .i64 x.2.1,.int .i64 x.2.2.1,.slice (some ⟨v0.heap.size,0,none⟩) n0 n0] rfl
 refine ⟨[.int .i64 x.1,.int .i64 x.2.1,.int .i64 x.2.2.1,.slice (some ⟨v0.heap.size,0,none⟩) n0 n0],rfl,?_,hby.out.last [.int .i64 x.1,.int .i64 x.2.1,.int .i64 x.2.2.1,.slice (some ⟨v0.heap.size,0,none⟩) n0 n0]⟩
 have hfin:=Qbv (F:=Zb v0.heap.size w1.heap.size).2 ⟨_,_,_,rfl,Nat.le_refl _,by omega,(O0_0.out.storedAll (w.heap.size+1) 0 [.int .i64 x.1,.int .i64 x.2.1,.int .i64 x.2.2.1,.slice (some ⟨v0.heap.size,0,none⟩) n0 n0] (by omega))⟩
 exact ownOp.owns_sub hfin fun b o f=>⟨by have:=f.1;omega,by have h2:=f.2;simp;omega⟩
theorem Qq9 (w:World) (B:Nat) (a:Option Addr) (n c:Nat) (xs:List dOp) (h:Qb shOp (Qf B) w a n xs) (hB:B<=w.heap.size) (hb:(Shape.list shOp).bulk xs<=1048576) :
  Calls Tryz.prog 78 #[.slice a n c] w fun e w'=>e = .returned (.slice (some ⟨w.heap.size,0,none⟩) n n)/\Qk ownOp (Zb w.heap.size w'.heap.size) w' (some ⟨w.heap.size,0,none⟩) n xs/\Below w.heap.size w w':=by
 have hbk:(Shape.list shOp).bulk xs=n+Shape.sum shOp.bulk xs:=by rw [<- h.1];rfl
 rw [hbk] at hb
 have hmk:=Jg (P:=Tryz.prog) 25 38 _ 4 48 Tryz.underlying25 Qcn n (by omega) (by omega)
 have hst:=OFilled.start ownOp w n xs (Value.agg #[.int .i64 0,.int .i64 0,.int .i64 0,.slice none 0 0]).cells 38
 replace hst:=Lib.hid hst
 have HL:=Lib.hid h
 have HB:=Lib.hid hb
 have hn1:n<=1048576:=by omega
 clear hbk h hb
 go_enter Tryz.func78,Tryz.ntmps78
 go_wp2_with fail
 go_loopw [4] (fun i wr => ∃ k:Nat,k<=n/\i = .int .i64 k/\OFilled ownOp w wr n k xs) (fun i _=>n-(intOf i).toNat)
 case atStart=>exact ⟨0,Nat.zero_le _,rfl,hst.out⟩
 case round =>
  obtain ⟨k,hk,rfl,hf⟩:=hrel
  by_cases hlt:k<n
  ·obtain ⟨x,hx⟩ : ∃ x,xs[k]? = some x:=⟨_,List.getElem?_eq_getElem (by rw [HL.out.1];exact hlt)⟩
   obtain ⟨b,o,es,rfl,hbB,hr,hs⟩:=HL.out.2 k x hx
   have hfb:=hf.below
   have hfl:=hf.lt
   have hth0:=hf.rest (Nat.le_of_lt hlt)
   have hrr:=Qr hr (show b<w.heap.size from Nat.lt_of_lt_of_le hbB hB) (Kept.of_below (I:=Qf w.heap.size) hfb fun b hb=>hb)
   have HS:=Lib.hid (Qsa wr _ es x (shOp.below (shOp.le hs hB) hfb (Nat.le_refl _)) (Nat.le_of_lt hfl) (by have h1:=Qz shOp.bulk xs k x hx;have h2:=HB.out;omega))
   have HF:=Lib.hid hf
   have HX:=Lib.hid hx
   have HT:=Lib.hid hth0
   obtain ⟨ae0,ne0,ce0,rfl,-⟩:=Q3.1 hs
   rw [Zd] at hrr
   have c0:=hrr 0 _ rfl
   have c1:=hrr 1 _ rfl
   have c2:=hrr 2 _ rfl
   have c3:=hrr 3 _ rfl
   simp only [Nat.add_zero] at c0
   try dsimp only at c0 c1 c2 c3 HS
   clear hr hrr hs hx hf hth0
   go_wp2_with fail
   clear c0 c1 c2 c3
   refine HS.out.mono ?_
   rintro e w1 ⟨es',rfl,hs',hb1⟩
   have hn4:4<=(n-k)*ownOp.size:=by rw [Qaz];omega
   have hth:=Jw HT.out hb1 hfl
   have hN:=HF.out.step hlt hb1 HX.out hs'
   have HN:=Lib.hid hN
   have HB1:=Lib.hid hb1
   obtain ⟨af0,nf0,cf0,rfl,-⟩:=Qbv.1 hs'
   obtain ⟨⟨v0,d0⟩,f0⟩:=Zl hth 0 (by omega)
   obtain ⟨⟨v1,d1⟩,f1⟩:=Zl hth 1 (by omega)
   obtain ⟨⟨v2,d2⟩,f2⟩:=Zl hth 2 (by omega)
   obtain ⟨⟨v3,d3⟩,f3⟩:=Zl hth 3 (by omega)
   rw [Qaz] at d0 d1 d2 d3 f0 f1 f2 f3
   simp only [Nat.add_zero] at d0 f0
   clear hs' hb1 hth hN
   go_wp2_with fail
   go_round
   case rel=>exact ⟨k+1,by omega,by go_num,HN.out⟩
   case measure=>simp [intOf];omega
  ·obtain rfl:k=n:=by omega
   have hz:=hf.below
   have HF:=Lib.hid hf
   clear hf hz
   go_wp2_with fail
   go_ret
   exact ⟨rfl,HF.out.list HL.out.1,HF.out.below⟩
def ownRow:Owned dRow:= .struct (.last (Owned.list Owned.int (by decide)))
theorem Jo:ownRow.size=1:=rfl
theorem Qa8 {F:Foot} {w:World} {cs:List Value} {d:dRow}:ownRow.owns F w cs d ↔ ∃ a0 n0 c0,cs=[.slice a0 n0 c0]/\(n0<=c0/\c0<=9223372036854775807/\Qk Owned.int F w a0 n0 d):=by
 constructor
 ·rintro ⟨a0,n0,c0,rfl,x0,y0,l0⟩
  exact ⟨a0,n0,c0,rfl,x0,y0,l0.sub fun b o g=>g⟩
 ·rintro ⟨a0,n0,c0,rfl,x0,y0,l0⟩
  exact ⟨a0,n0,c0,rfl,x0,y0,l0⟩
theorem Qra (w:World) (B:Nat) (es:List Value) (x:dRow) (h:Qi.reads (Qf B) w es x) (hB:B<=w.heap.size) (hb:Qi.bulk x<=1048576) :
  Calls Tryz.prog 175 #[.agg es.toArray] w fun e w' => ∃ es',e = .returned (.agg es'.toArray)/\ownRow.owns (Zb w.heap.size w'.heap.size) w' es' x/\Below w.heap.size w w':=by
 obtain ⟨a0,n0,c0,rfl,⟨p0,r0,l0⟩⟩:=Ze.1 h
 rw [Zs] at hb
 have m0:n0<=1048576:=by have:=Qh Shape.int l0;omega
 have H0:=Lib.hid fun (w1:World) (hbw:Below w.heap.size w w1)=>Qbf w1 B a0 n0 c0 _ (l0.below hbw hB) (Nat.le_trans hB hbw.size) (by omega)
 have hbx:=Boxes.start w #[.slice a0 n0 c0] #[.slice none 0 0] #[.slice none 0 0] 221 95
 clear h hb l0 r0 p0
 go_enter Tryz.func175,Tryz.ntmps175
 go_wp2_with fail
 generalize ((w.alloc (.cells #[.slice a0 n0 c0] 221 (0,0))).alloc (.cells #[.slice none 0 0] 95 (0,0))).alloc (.cells #[.slice none 0 0] 95 (0,0))=v0 at hbx |-
 have BX0:=Lib.hid hbx
 clear hbx
 refine (H0.out v0 BX0.out.below).mono ?_
 rintro e w1 ⟨rfl,hr0,hb0⟩
 have hbx:=BX0.out.call hb0
 have sb0:=hb0.size
 have hlt0:=BX0.out.size
 have za0_0:w1.cell? ⟨w.heap.size,0,none⟩=_:=cell_of_row _ _ _ _ _ _ hbx.a
 have zo0_0:w1.cell? ⟨w.heap.size+1+1,0,none⟩=_:=cell_of_row _ _ _ _ _ _ hbx.o
 have zr0_0:w1.cell? ⟨w.heap.size+1,0,none⟩=_:=cell_of_row _ _ _ _ _ _ hbx.z
 have fo0_0:w1.frozen? ⟨w.heap.size+1+1,0,none⟩=false:=frozen_of_row _ _ _ _ _ hbx.o
 have fr0_0:w1.frozen? ⟨w.heap.size+1,0,none⟩=false:=frozen_of_row _ _ _ _ _ hbx.z
 simp only [List.setIfInBounds_toArray,List.set_cons_zero,List.set_cons_succ,List.getElem?_toArray,List.getElem?_cons_zero,List.getElem?_cons_succ] at za0_0 zo0_0 zr0_0
 have N0_0:=hr0
 have hby:=(hbx.store 0 (.slice (some ⟨v0.heap.size,0,none⟩) n0 n0))
 have O0_0:=(N0_0.stored (w.heap.size+1+1) 0 (.slice (some ⟨v0.heap.size,0,none⟩) n0 n0) (by omega))
 replace hby:=Lib.hid hby
 replace O0_0:=Lib.hid O0_0
 clear N0_0
 clear hr0 hbx hb0
 go_wp2_with fail
 refine bodyPost_ret (results_cell_row rfl _ _ (w.heap.size+1) 95 #[.slice (some ⟨v0.heap.size,0,none⟩) n0 n0] (0,0) _ rfl ?_ Tryz.underlying95 rfl (by kernel_rfl)) rfl ?_
 ·exact hby.out.result [.slice (some ⟨v0.heap.size,0,none⟩) n0 n0] rfl
 refine ⟨[.slice (some ⟨v0.heap.size,0,none⟩) n0 n0],rfl,?_,hby.out.last [.slice (some ⟨v0.heap.size,0,none⟩) n0 n0]⟩
 have hfin:=Qa8 (F:=Zb v0.heap.size w1.heap.size).2 ⟨_,_,_,rfl,Nat.le_refl _,by omega,(O0_0.out.storedAll (w.heap.size+1) 0 [.slice (some ⟨v0.heap.size,0,none⟩) n0 n0] (by omega))⟩
 exact ownRow.owns_sub hfin fun b o f=>⟨by have:=f.1;omega,by have h2:=f.2;simp;omega⟩
theorem Qh6 (w:World) (B:Nat) (a:Option Addr) (n c:Nat) (xs:List dRow) (h:Qb Qi (Qf B) w a n xs) (hB:B<=w.heap.size) (hb:(Shape.list Qi).bulk xs<=1048576) :
  Calls Tryz.prog 80 #[.slice a n c] w fun e w'=>e = .returned (.slice (some ⟨w.heap.size,0,none⟩) n n)/\Qk ownRow (Zb w.heap.size w'.heap.size) w' (some ⟨w.heap.size,0,none⟩) n xs/\Below w.heap.size w w':=by
 have hbk:(Shape.list Qi).bulk xs=n+Shape.sum Qi.bulk xs:=by rw [<- h.1];rfl
 rw [hbk] at hb
 have hmk:=Jg (P:=Tryz.prog) 27 95 _ 1 24 Tryz.underlying27 Qby n (by omega) (by omega)
 have hst:=OFilled.start ownRow w n xs (Value.agg #[.slice none 0 0]).cells 95
 rw [Jo,Nat.mul_one] at hst
 replace hst:=Lib.hid hst
 have HL:=Lib.hid h
 have HB:=Lib.hid hb
 have hn1:n<=1048576:=by omega
 clear hbk h hb
 go_enter Tryz.func80,Tryz.ntmps80
 go_wp2_with fail
 go_loopw [4] (fun i wr => ∃ k:Nat,k<=n/\i = .int .i64 k/\OFilled ownRow w wr n k xs) (fun i _=>n-(intOf i).toNat)
 case atStart=>exact ⟨0,Nat.zero_le _,rfl,hst.out⟩
 case round =>
  obtain ⟨k,hk,rfl,hf⟩:=hrel
  by_cases hlt:k<n
  ·obtain ⟨x,hx⟩ : ∃ x,xs[k]? = some x:=⟨_,List.getElem?_eq_getElem (by rw [HL.out.1];exact hlt)⟩
   obtain ⟨b,o,es,rfl,hbB,hr,hs⟩:=HL.out.2 k x hx
   have hfb:=hf.below
   have hfl:=hf.lt
   have hth0:=hf.rest (Nat.le_of_lt hlt)
   have hrr:=Qr hr (show b<w.heap.size from Nat.lt_of_lt_of_le hbB hB) (Kept.of_below (I:=Qf w.heap.size) hfb fun b hb=>hb)
   have HS:=Lib.hid (Qra wr _ es x (Qi.below (Qi.le hs hB) hfb (Nat.le_refl _)) (Nat.le_of_lt hfl) (by have h1:=Qz Qi.bulk xs k x hx;have h2:=HB.out;omega))
   have HF:=Lib.hid hf
   have HX:=Lib.hid hx
   have HT:=Lib.hid hth0
   obtain ⟨ae0,ne0,ce0,rfl,-⟩:=Ze.1 hs
   rw [Jr] at hrr
   rw [Nat.mul_one] at hrr
   have c0:=hrr 0 _ rfl
   simp only [Nat.add_zero] at c0
   try dsimp only at c0 HS
   clear hr hrr hs hx hf hth0
   go_wp2_with fail
   clear c0
   refine HS.out.mono ?_
   rintro e w1 ⟨es',rfl,hs',hb1⟩
   have hn4:1<=(n-k)*ownRow.size:=by rw [Jo];omega
   have hth:=Jw HT.out hb1 hfl
   have hN:=HF.out.step hlt hb1 HX.out hs'
   rw [Jo,Nat.mul_one] at hN
   have HN:=Lib.hid hN
   have HB1:=Lib.hid hb1
   obtain ⟨af0,nf0,cf0,rfl,-⟩:=Qa8.1 hs'
   obtain ⟨⟨v0,d0⟩,f0⟩:=Zl hth 0 (by omega)
   rw [Jo] at d0 f0
   simp only [Nat.add_zero] at d0 f0
   rw [Nat.mul_one] at d0 f0
   clear hs' hb1 hth hN
   go_wp2_with fail
   go_round
   case rel=>exact ⟨k+1,by omega,by go_num,HN.out⟩
   case measure=>simp [intOf];omega
  ·obtain rfl:k=n:=by omega
   have hz:=hf.below
   have HF:=Lib.hid hf
   clear hf hz
   go_wp2_with fail
   go_ret
   exact ⟨rfl,HF.out.list HL.out.1,HF.out.below⟩
def Qsr:Owned Qhe:= .struct (.cons (Owned.list Owned.int (by decide)) (.last (Owned.list Owned.int (by decide))))
def Qsg:Owned Qe7:= .struct (.last (Owned.list ownOp (by decide)))
def Zk:Owned Qat:= .struct (.cons (Owned.list ownRow (by decide)) (.cons Owned.int (.last Owned.bool)))
theorem Jb {F:Foot} {w:World} {cs:List Value} {d:Qat}:Zk.owns F w cs d ↔ ∃ a0 n0 c0,cs=[.slice a0 n0 c0,.int .i64 d.2.1,.bool d.2.2]/\(n0<=c0/\c0<=9223372036854775807/\Qk ownRow F w a0 n0 d.1):=by
 constructor
 ·rintro ⟨_,_,A0,B0,rfl,⟨a0,n0,c0,rfl,x0,y0,l0⟩,⟨_,_,A1,B1,rfl,rfl,rfl,s1,t1,p1⟩,s0,t0,p0⟩
  exact ⟨a0,n0,c0,rfl,x0,y0,l0.sub fun b o g=>s0 _ _ (g)⟩
 ·rintro ⟨a0,n0,c0,rfl,x0,y0,l0⟩
  exact ⟨_,_,F,(fun _ _=>False),rfl,⟨a0,n0,c0,rfl,x0,y0,l0⟩,⟨_,_,(fun _ _=>False),(fun _ _=>False),rfl,rfl,rfl,fun _ _ g=>g.elim,fun _ _ g=>g.elim,fun _ _ g=>g.elim⟩,fun _ _ g=>g,fun _ _ g=>g.elim,fun _ _ _ g=>g.elim⟩
theorem Qod (w:World) (B:Nat) (es:List Value) (x:Qat) (h:Je.reads (Qf B) w es x) (hB:B<=w.heap.size) (hb:Je.bulk x<=1048576) :
  Calls Tryz.prog 81 #[.agg es.toArray] w fun e w' => ∃ es',e = .returned (.agg es'.toArray)/\Zk.owns (Zb w.heap.size w'.heap.size) w' es' x/\Below w.heap.size w w':=by
 obtain ⟨a0,n0,c0,rfl,⟨p0,r0,l0⟩⟩:=Q6.1 h
 rw [Zh] at hb
 have m0:n0<=1048576:=by have:=Qh Qi l0;omega
 have H0:=Lib.hid fun (w1:World) (hbw:Below w.heap.size w w1)=>Qh6 w1 B a0 n0 c0 _ (l0.below hbw hB) (Nat.le_trans hB hbw.size) (by omega)
 have hbx:=Boxes.start w #[.slice a0 n0 c0,.int .i64 x.2.1,.bool x.2.2] #[.slice none 0 0,.int .i64 0,.bool false] #[.slice none 0 0,.int .i64 0,.bool false] 54 30
 clear h hb l0 r0 p0
 go_enter Tryz.func81,Tryz.ntmps81
 go_wp2_with fail
 generalize ((w.alloc (.cells #[.slice a0 n0 c0,.int .i64 x.2.1,.bool x.2.2] 54 (0,0))).alloc (.cells #[.slice none 0 0,.int .i64 0,.bool false] 30 (0,0))).alloc (.cells #[.slice none 0 0,.int .i64 0,.bool false] 30 (0,0))=v0 at hbx |-
 have BX0:=Lib.hid hbx
 clear hbx
 refine (H0.out v0 BX0.out.below).mono ?_
 rintro e w1 ⟨rfl,hr0,hb0⟩
 have hbx:=BX0.out.call hb0
 have sb0:=hb0.size
 have hlt0:=BX0.out.size
 have za0_0:w1.cell? ⟨w.heap.size,0,none⟩=_:=cell_of_row _ _ _ _ _ _ hbx.a
 have za0_1:w1.cell? ⟨w.heap.size,1,none⟩=_:=cell_of_row _ _ _ _ _ _ hbx.a
 have za0_2:w1.cell? ⟨w.heap.size,2,none⟩=_:=cell_of_row _ _ _ _ _ _ hbx.a
 have zo0_0:w1.cell? ⟨w.heap.size+1+1,0,none⟩=_:=cell_of_row _ _ _ _ _ _ hbx.o
 have zo0_1:w1.cell? ⟨w.heap.size+1+1,1,none⟩=_:=cell_of_row _ _ _ _ _ _ hbx.o
 have zo0_2:w1.cell? ⟨w.heap.size+1+1,2,none⟩=_:=cell_of_row _ _ _ _ _ _ hbx.o
 have zr0_0:w1.cell? ⟨w.heap.size+1,0,none⟩=_:=cell_of_row _ _ _ _ _ _ hbx.z
 have zr0_1:w1.cell? ⟨w.heap.size+1,1,none⟩=_:=cell_of_row _ _ _ _ _ _ hbx.z
 have zr0_2:w1.cell? ⟨w.heap.size+1,2,none⟩=_:=cell_of_row _ _ _ _ _ _ hbx.z
 have fo0_0:w1.frozen? ⟨w.heap.size+1+1,0,none⟩=false:=frozen_of_row _ _ _ _ _ hbx.o
 have fr0_0:w1.frozen? ⟨w.heap.size+1,0,none⟩=false:=frozen_of_row _ _ _ _ _ hbx.z
 have fo0_1:w1.frozen? ⟨w.heap.size+1+1,1,none⟩=false:=frozen_of_row _ _ _ _ _ hbx.o
 have fr0_1:w1.frozen? ⟨w.heap.size+1,1,none⟩=false:=frozen_of_row _ _ _ _ _ hbx.z
 have fo0_2:w1.frozen? ⟨w.heap.size+1+1,2,none⟩=false:=frozen_of_row _ _ _ _ _ hbx.o
 have fr0_2:w1.frozen? ⟨w.heap.size+1,2,none⟩=false:=frozen_of_row _ _ _ _ _ hbx.z
 simp only [List.setIfInBounds_toArray,List.set_cons_zero,List.set_cons_succ,List.getElem?_toArray,List.getElem?_cons_zero,List.getElem?_cons_succ] at za0_0 zo0_0 zr0_0 za0_1 zo0_1 zr0_1 za0_2 zo0_2 zr0_2
 have N0_0:=hr0
 have hby:=(((hbx.store 0 (.slice (some ⟨v0.heap.size,0,none⟩) n0 n0)).store 1 (.int .i64 x.2.1)).store 2 (.bool x.2.2))
 have O0_0:=(((N0_0.stored (w.heap.size+1+1) 0 (.slice (some ⟨v0.heap.size,0,none⟩) n0 n0) (by omega)).stored (w.heap.size+1+1) 1 (.int .i64 x.2.1) (by omega)).stored (w.heap.size+1+1) 2 (.bool x.2.2) (by omega))
 replace hby:=Lib.hid hby
 replace O0_0:=Lib.hid O0_0
 clear N0_0
 clear hr0 hbx hb0
 go_wp2_with fail
 refine bodyPost_ret (results_cell_row rfl _ _ (w.heap.size+1) 30 #[.slice (some ⟨v0.heap.size,0,none⟩) n0 n0,.int .i64 x.2.1,.bool x.2.2] (0,0) _ rfl ?_ Tryz.underlying30 rfl (by kernel_rfl)) rfl ?_
 ·exact hby.out.result [.slice (some ⟨v0.heap.size,0,none⟩) n0 n0,.int .i64 x.2.1,.bool x.2.2] rfl
 refine ⟨[.slice (some ⟨v0.heap.size,0,none⟩) n0 n0,.int .i64 x.2.1,.bool x.2.2],rfl,?_,hby.out.last [.slice (some ⟨v0.heap.size,0,none⟩) n0 n0,.int .i64 x.2.1,.bool x.2.2]⟩
 have hfin:=Jb (F:=Zb v0.heap.size w1.heap.size).2 ⟨_,_,_,rfl,Nat.le_refl _,by omega,(O0_0.out.storedAll (w.heap.size+1) 0 [.slice (some ⟨v0.heap.size,0,none⟩) n0 n0,.int .i64 x.2.1,.bool x.2.2] (by omega))⟩
 exact Zk.owns_sub hfin fun b o f=>⟨by have:=f.1;omega,by have h2:=f.2;simp;omega⟩
end Go.Proofs.YtcooobnaocbdjaaGreatDoor

end

/-! YtcooobnaocbdjaaGreatDoorPStgO -/
section
set_option maxRecDepth 100000
set_option maxHeartbeats 6400000
set_option linter.unusedSimpArgs false
set_option linter.unusedVariables false
namespace Go.Proofs.YtcooobnaocbdjaaGreatDoor
open Go.RowKit Go.Sort
theorem Row.ownOp {base:Nat} {w:World} {a:Option Addr} {n c:Nat} {ys:List Int} (h:Row base w (.slice a n c) ys) (k i o:Int):ownOp.owns (Zb base w.heap.size) w [.int .i64 k,.int .i64 i,.int .i64 o,.slice a n c] (k,i,o,ys):=by
 obtain ⟨a',n',c',e',h1,h2,h3⟩:=h.own
 obtain ⟨rfl,rfl,rfl⟩:a=a'/\n=n'/\c=c':=by simpa using e'
 exact Qbv.2 ⟨a,n,c,rfl,h1,h2,h3⟩
theorem Qqj {k i o:Int} {a:Option Addr} {n c:Nat} : ∀ u∈[Value.int .i64 k,.int .i64 i,.int .i64 o,.slice a n c],u.oneCell'=true:=by
 intro u hu
 simp only [List.mem_cons,List.not_mem_nil,or_false] at hu
 rcases hu with rfl | rfl | rfl | rfl <;> rfl
theorem Qh7 (w:World) (a:Option Addr) (n c:Nat) (l:List dOp) (h:Qb shOp (Qf w.heap.size) w a n l) (hn:n<=1048576) (hb:Shape.sum shOp.bulk l<=1048576) :
  Calls Tryz.prog 166 #[.slice a n c] w fun e w' => ∃ v,e = .returned v/\ListL ownOp 38 w.heap.size w'.heap.size w' v l/\Below w.heap.size w w':=by
 obtain ⟨i0,hi,hz0,hz1,hz2⟩:=info_parts Qcn
 have he:ListL ownOp 38 w.heap.size (w.alloc (.cells #[] 38 (0,0))).heap.size (w.alloc (.cells #[] 38 (0,0))) (.slice (some ⟨w.heap.size,0,none⟩) 0 0) []:=by
  have:=ListL.empty ownOp 38 (lo:=w.heap.size) w (Nat.le_refl _)
  exact this.wide (Nat.le_refl _) (by simp) (Nat.le_refl _)
 have hal:Below w.heap.size w (w.alloc (.cells #[] 38 (0,0))):=(Below.refl _ _).alloc (Nat.le_refl _) _
 have HL:=Lib.hid h
 have HLEN:=Lib.hid h.1
 have HBK:=Lib.hid hb
 have HE:=Lib.hid he
 have HA:=Lib.hid hal
 clear h hb he hal
 go_enter Tryz.func166,Tryz.ntmps166
 go_wp2_with fail
 generalize w.alloc (.cells #[] 38 (0,0))=W0 at HE HA |-
 go_loopw [3,4] (fun v i wr => ∃ k:Nat,k<=n/\i = .int .i64 k/\ListL ownOp 38 w.heap.size wr.heap.size wr v (l.take k)/\Below w.heap.size w wr) (fun _ i _=>n-(intOf i).toNat)
 case atStart=>exact ⟨0,Nat.zero_le _,rfl,HE.out,HA.out⟩
 case round =>
  obtain ⟨k,hk,rfl,hl,hb⟩:=hrel
  have hsz:=hb.size
  by_cases hlt:k<n
  ·obtain ⟨b,o,x,ax,nx,cx,hx,rfl,hbB,hc0,hc1,hc2,hc3,-,-,hlx⟩:=Qds HL.out k hlt
   have hbx:=Qz shOp.bulk l k x hx
   rw [Z6,Ql,hlx.1] at hbx
   have hnx:nx<=1048576:=by have:=HBK.out;omega
   have hix:=hlx.ints hnx
   obtain ⟨A,hA⟩ : ∃ M,x.1=M:=⟨_,rfl⟩
   obtain ⟨I,hI⟩ : ∃ M,x.2.1=M:=⟨_,rfl⟩
   obtain ⟨O,hO⟩ : ∃ M,x.2.2.1=M:=⟨_,rfl⟩
   rw [hA] at hc0
   rw [hI] at hc1
   rw [hO] at hc2
   have htk:l.take (k+1)=l.take k ++ [x]:=by rw [List.take_add_one,hx];rfl
   have hxe:x=(A,I,O,x.2.2.2):=by rw [<- hA,<- hI,<- hO]
   obtain ⟨av,cv,rfl,-,-⟩:=hl.form
   have htl:(l.take k).length=k:=by rw [List.length_take,HLEN.out];omega
   rw [htl] at hl |-
   have d0:=(hb.cell (p:=⟨b,o+k*4,none⟩) hbB).trans hc0
   have d1:=(hb.cell (p:=⟨b,o+k*4+1,none⟩) hbB).trans hc1
   have d2:=(hb.cell (p:=⟨b,o+k*4+2,none⟩) hbB).trans hc2
   have d3:=(hb.cell (p:=⟨b,o+k*4+3,none⟩) hbB).trans hc3
   have hal:=(Below.refl wr.heap.size wr).alloc (Nat.le_refl _) (.cells #[.int .i64 A,.int .i64 I,.int .i64 O,.slice ax nx cx] 38 (0,0))
   have hbk:=heap_alloc_new wr (.cells #[.int .i64 A,.int .i64 I,.int .i64 O,.slice ax nx cx] 38 (0,0))
   have hs1:(wr.alloc (.cells #[.int .i64 A,.int .i64 I,.int .i64 O,.slice ax nx cx] 38 (0,0))).heap.size=wr.heap.size+1:=by simp
   have e3:=(hal.cell (p:=⟨b,o+k*4+3,none⟩) (by show b<_;have:b<w.heap.size:=hbB;omega)).trans d3
   have HIX:=Lib.hid hix
   have HLK:=Lib.hid hl
   have HTK:=Lib.hid htk
   have HXE:=Lib.hid hxe
   have HBW:=Lib.hid hb
   have HAL:=Lib.hid hal
   have HBN:=Lib.hid hbk
   have hbB':b<w.heap.size:=hbB
   clear hx hlx hix hc0 hc1 hc2 hc3 hA hI hO htk hxe hl hb hbx hal hbk hbB
   go_upto_region 6 with fail
   clear d0 d1 d2 d3
   generalize wr.alloc (.cells #[.int .i64 A,.int .i64 I,.int .i64 O,.slice ax nx cx] 38 (0,0))=wb at HAL HBN hs1 e3 |-
   have ha1:Below wb.heap.size wb (wb.alloc (.cells #[] 3 (0,0))):=(Below.refl _ _).alloc (Nat.le_refl _) _
   have hre:Row wb.heap.size (wb.alloc (.cells #[] 3 (0,0))) (.slice (some ⟨wb.heap.size,0,none⟩) 0 0) []:=
    ⟨by simp [Qp],.inr ⟨wb.heap.size,0,#[],rfl,Nat.le_refl _,heap_alloc_new wb _,Nat.le_refl _,Nat.zero_le _,by simp,by simp [Qp]⟩⟩
   have f3:=(ha1.cell (p:=⟨b,o+k*4+3,none⟩) (by show b<_;omega)).trans e3
   have HA1:=Lib.hid ha1
   have HRE:=Lib.hid hre
   have HIN:=Lib.hid (HIX.out.below ((HBW.out.trans (HAL.out.mono hsz)).trans (ha1.mono (by omega))) (Nat.le_refl _))
   clear ha1 hre
   have HS1:=Lib.hid hs1
   clear hs1
   go_upto_region 7 with (at_builtin;refine Qw (by rfl) fun K hK => ?_;refine Ju rfl (Zv (ops:=#[]) _ rfl _ _ (by rfl) wb.heap.size _ [] (by rfl) HRE.out ax nx cx w.heap.size x.2.2.2 (by rfl) HIN.out (by simp) HA1.out.size ?_);intro ar nr cr w2 hr hg;rw [List.nil_append] at hr;have hb2:Below wb.heap.size wb w2:=HA1.out.trans ((Below.refl wb.heap.size _).grown hg HA1.out.size fun q hq=>by cases hq;exact Nat.le_refl _);have hk2:=(hb2.block wr.heap.size (by have:=HS1.out;omega)).trans HBN.out;have s3:=Qa hk2 3 _ rfl;have t3:w2.frozen? ⟨wr.heap.size,3,none⟩=false:=frozen_of_row _ _ _ _ _ hk2;have HR2:=Lib.hid hr;have HB2:=Lib.hid hb2;have HK2:=Lib.hid hk2;clear hr hg hb2 hk2;refine hK _ _ ?_;clear hK K)
   have hs1:=HS1.out
   have k3:=heap_setCell_same w2 wr.heap.size 3 _ _ (.slice ar nr cr) HK2.out
   have hs2:=HB2.out.size
   have hne : ∀ q,(Value.slice ar nr cr).ownBlock=some q->q≠wr.heap.size:=fun q hq=>by have:=(Row.lt HR2.out q hq).1;omega
   have hr3:=Jn HR2.out 3 (.slice ar nr cr) hne
   have hl3:=((HLK.out.below HAL.out (Nat.le_refl _)).below HB2.out (by omega)).far wr.heap.size 3 (.slice ar nr cr) (Nat.le_refl _)
   have hb3:=(HBW.out.trans ((HAL.out.mono hsz).trans (HB2.out.mono (by omega)))).setCell (p:=⟨wr.heap.size,3,none⟩) hsz (.slice ar nr cr)
   have hs3:(w2.setCell ⟨wr.heap.size,3,none⟩ (.slice ar nr cr)).heap.size=w2.heap.size:=by simp
   have K3:=Lib.hid k3
   have HR3:=Lib.hid (show Row wb.heap.size (w2.setCell ⟨wr.heap.size,3,none⟩ (.slice ar nr cr)) (.slice ar nr cr) x.2.2.2 from hr3)
   have HL3:=Lib.hid hl3
   have HB3:=Lib.hid hb3
   have HS3:=Lib.hid hs3
   clear k3 hr3 hl3 hb3 hne s3 t3 e3 f3 hs1 hs2 hs3
   generalize w2.setCell ⟨wr.heap.size,3,none⟩ (.slice ar nr cr)=w3 at K3 HR3 HL3 HB3 HS3 |-
   have y0:=Qa K3.out 0 _ rfl
   have y1:=Qa K3.out 1 _ rfl
   have y2:=Qa K3.out 2 _ rfl
   have y3:=Qa K3.out 3 _ rfl
   go_wp2_with (at_builtin;refine Qw (by rfl) fun K hK => ?_;refine Ju rfl (Zr (ops:=#[]) w3 (S:=ownOp) (T:=38) (Ts:=25) (by rfl) _ _ (by rfl) i0 (.agg #[.int .i64 0,.int .i64 0,.int .i64 0,.slice none 0 0]) 48 Tryz.underlying25 hi hz0 hz1 hz2 rfl (by decide) (by decide) w.heap.size wr.heap.size hsz _ (l.take k) (A,I,O,x.2.2.2) [.int .i64 A,.int .i64 I,.int .i64 O,.slice ar nr cr] (Zb wb.heap.size w3.heap.size) (by rfl) HL3.out (HR3.out.ownOp A I O) (fun b o f=>⟨by have:=f.1;have:=HS1.out;omega,f.2⟩) Qqj (by rfl) (by rw [List.length_take];omega) ?_);intro av' nv' cv' w4 hl4 hb4 _ _;have HL4:=Lib.hid hl4;have HB4:=Lib.hid (HB3.out.trans hb4);clear hl4 hb4;refine hK _ _ ?_;clear hK K)
   go_roundw
   case rel =>
    refine ⟨k+1,by omega,by go_num,?_,HB4.out⟩
    rw [HTK.out,HXE.out]
    exact HL4.out
   case measure=>simp [intOf];omega
  ·obtain rfl:k=n:=by omega
   rw [List.take_of_length_le (Nat.le_of_eq HLEN.out)] at hl
   have HLL:=Lib.hid hl
   have HBW:=Lib.hid hb
   clear hl hb
   go_wp2_with fail
   go_ret
   exact ⟨_,rfl,HLL.out,HBW.out⟩
end Go.Proofs.YtcooobnaocbdjaaGreatDoor

end

/-! YtcooobnaocbdjaaGreatDoorPSeqS -/
section
set_option linter.unusedVariables false
namespace Go.Proofs.YtcooobnaocbdjaaGreatDoor
open Go.RowKit
def Qrd (a b:Qat):Bool:=decide (a.2.1=b.2.1) && (decide (a.2.2=b.2.2) && Qnt a.1 b.1)
end Go.Proofs.YtcooobnaocbdjaaGreatDoor

end
