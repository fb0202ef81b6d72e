import Derived.Test.YtcooobnaocbdjaaGreatDoorJoin2
import Derived.Deep.DeepCutAuto
import Derived.Deep.RegionLaw
import Derived.Lib.QuietBelow
import Derived.Test.YtcooobnaocbdjaaGreatDoorJoin3
set_option maxRecDepth 100000
set_option maxHeartbeats 6400000
set_option linter.unusedSimpArgs false
set_option linter.unusedVariables false
namespace Go.Proofs.YtcooobnaocbdjaaGreatDoor
open Go.RowKit Go.Sort
theorem Qcm (w:World) (B:Nat) (a:Option Addr) (n c:Nat) (xs:List Int) (L:Int) (h:Qb Shape.int (Qf B) w a n xs) (hB:B<=w.heap.size) (hn:n<=9223372036854775807) (h0:0<=L) (h1:L<=1048576) :
  Calls Tryz.prog 71 #[.slice a n c,.int .i64 L] w fun e w'=>e = .returned (.int .i64 (szN ((Shape.list Shape.int).bulk xs) L))/\Below w.heap.size w w':=by
 rw [Ql,h.1]
 by_cases hL:(n:Int)<=L
 ·rw [Zm hL]
  exact (Qnh w a n c L hL h1).mono fun e w' h=>⟨h.1,h.2 ▸ Below.refl _ _⟩
 ·rw [Zg hL]
  exact (Qlt w a n c L (by omega) h0 h1 hn).mono fun e w' h=>⟨h.1,h.2 ▸ Below.refl _ _⟩
theorem Row.listAt {base:Nat} {w:World} {v:Value} {xs:List Int} (h:Row base w v xs):(Shape.list Shape.int).reads (From base w.heap.size) w [v] xs:=by
 have hcs:=fun g (h':v.ownBlock=some g)=>World.ownsRow.cells h (g:=g) h'
 have hlt:=World.ownsRow.lt h
 rcases h.2 with ⟨rfl,hn⟩ | ⟨g,cap,cur,rfl,_,hg,hc,hm,_⟩
 ·obtain rfl:xs=[]:=List.eq_nil_of_length_eq_zero hn
  exact ⟨none,0,0,rfl,Nat.le_refl _,by omega,rfl,fun j x hx=>by simp at hx⟩
 ·unfold maxLen at hm
  refine ⟨_,xs.length,cap,rfl,by omega,by omega,rfl,fun j x hx => ?_⟩
  have hj:=(List.getElem?_eq_some_iff.1 hx).1
  have hxe:xs.getD j 0=x:=by rw [List.getD_eq_getElem?_getD,hx];rfl
  refine ⟨g,0,[.int .i64 x],rfl,hlt g rfl,fun i v hv => ?_,rfl⟩
  have:=hcs g rfl j _ (Qbp xs j hj)
  rw [Addr.add_lit,hxe] at this
  cases i with
  | zero=>cases hv;simpa [Shape.int] using this
  | succ i=>simp at hv
theorem J9 (w:World) (B:Nat) (a:Option Addr) (n c:Nat) (xs:List Int) (h:Qb Shape.int (Qf B) w a n xs) (hB:B<=w.heap.size) (hb:(Shape.list Shape.int).bulk xs<=1048576) :
  Calls Tryz.prog 23 #[.slice a n c] w fun e w'=>e = .returned (.slice (some ⟨w.heap.size,0,none⟩) n n)/\Qb Shape.int (From w.heap.size w'.heap.size) w' (some ⟨w.heap.size,0,none⟩) n xs/\Below w.heap.size w w':=by
 rw [Ql,h.1] at hb
 refine (Qgl B w a n c xs (h.ints hb) hB).mono ?_
 rintro e w' ⟨rfl,hr,hbw⟩
 obtain ⟨a',n',c',e',_,_,hr'⟩:=hr.listAt
 cases e'
 exact ⟨rfl,hr',hbw⟩
theorem Qba (w:World) (B B':Nat) (a a':Option Addr) (n c c':Nat) (xs:List Int) (h:Qb Shape.int (Qf B) w a n xs) (h':Qb Shape.int (Qf B') w a' n xs) (hB:B<=w.heap.size) (hB':B'<=w.heap.size) (hb:(Shape.list Shape.int).bulk xs<=1048576) :
  Calls Tryz.prog 25 #[.slice a n c,.slice a' n c'] w fun e w'=>e = .returned (.bool true)/\Below w.heap.size w w':=by
 rw [Ql,h.1] at hb
 exact Qjz w a n c xs a' c' ((h.ints hb).le hB) ((h'.ints hb).le hB')
abbrev dOp:=Int × Int × Int × List Int
def shOp:Shape dOp:= .struct (.cons Shape.int (.cons Shape.int (.cons Shape.int (.last (Shape.list Shape.int)))))
theorem Zd:shOp.size=4:=rfl
theorem Q3 {I:Nat->Prop} {w:World} {cs:List Value} {d:dOp}:shOp.reads I w cs d ↔ ∃ a0 n0 c0,cs=[.int .i64 d.1,.int .i64 d.2.1,.int .i64 d.2.2.1,.slice a0 n0 c0]/\(n0<=c0/\c0<=9223372036854775807/\Qb Shape.int I w a0 n0 d.2.2.2):=by
 constructor
 ·rintro ⟨_,_,rfl,rfl,_,_,rfl,rfl,_,_,rfl,rfl,⟨a0,n0,c0,rfl,g0⟩⟩
  exact ⟨a0,n0,c0,rfl,g0⟩
 ·rintro ⟨a0,n0,c0,rfl,g0⟩
  exact ⟨_,_,rfl,rfl,_,_,rfl,rfl,_,_,rfl,rfl,⟨a0,n0,c0,rfl,g0⟩⟩
theorem Z6 (d:dOp):shOp.bulk d=(Shape.list Shape.int).bulk d.2.2.2:=by
 simp only [shOp,Shape.struct,FieldsOf.cons,FieldsOf.last,Shape.int,Shape.bool]
 try omega
theorem Qrn (w:World) (B:Nat) (es:List Value) (x:dOp) (L:Int) (h:shOp.reads (Qf B) w es x) (hB:B<=w.heap.size) (h0:0<=L) (h1:L<=1048576) :
  Calls Tryz.prog 163 #[.agg es.toArray,.int .i64 L] w fun e w'=>e = .returned (.int .i64 (szN (shOp.bulk x) L))/\Below w.heap.size w w':=by
 obtain ⟨a0,n0,c0,rfl,⟨p0,r0,l0⟩⟩:=Q3.1 h
 rw [Z6]
 have ha:=(Below.refl w.heap.size w).alloc (Nat.le_refl _) (.cells #[.int .i64 x.1,.int .i64 x.2.1,.int .i64 x.2.2.1,.slice a0 n0 c0] 216 (0,0))
 have hb0:=heap_alloc_new w (.cells #[.int .i64 x.1,.int .i64 x.2.1,.int .i64 x.2.2.1,.slice a0 n0 c0] 216 (0,0))
 have hs0:w.heap.size<(w.alloc (.cells #[.int .i64 x.1,.int .i64 x.2.1,.int .i64 x.2.2.1,.slice a0 n0 c0] 216 (0,0))).heap.size:=by simp
 have H0:=fun (w1:World) (hb:Below w.heap.size w w1) (V:Int) (g0:0<=V) (g1:V<=1048576)=>Qcm w1 B a0 n0 c0 _ V (l0.below hb hB) (Nat.le_trans hB hb.size) (by omega) g0 g1
 obtain ⟨u0,hu0⟩ : ∃ u,(Shape.list Shape.int).bulk x.2.2.2=u:=⟨_,rfl⟩
 simp only [hu0] at H0 |-
 replace H0:=Lib.hid H0
 have HA:=Lib.hid ha
 have HB0:=Lib.hid hb0
 have HS0:=Lib.hid hs0
 clear ha hb0 hs0 h hu0
 clear p0 r0 l0
 obtain ⟨d,hd⟩ : ∃ d,d=szN (u0) L:=⟨_,rfl⟩
 rw [<- hd]
 replace HD:=Lib.hid hd
 clear hd
 by_cases f0:(u0:Int)<=L
 ·have q0:=H0.out _ HA.out L (by omega) (by omega)
  rw [Zm f0] at q0
  obtain ⟨V0,hV0⟩ : ∃ V',L-(u0:Int)=V':=⟨_,rfl⟩
  rw [hV0] at q0
  have t0:decide (V0<0)=false:=decide_eq_false (by omega)
  have hdd:V0=d:=by rw [HD.out,Zm (by omega)];omega
  subst hdd
  replace q0:=Lib.hid q0
  go_enter Tryz.func163,Tryz.ntmps163
  go_wp2_with fail
  refine q0.out.mono ?_
  rintro e w1 ⟨rfl,hb0⟩
  have B0:=Lib.hid (HA.out.trans (hb0.mono HA.out.size))
  clear hb0
  go_wp2_with fail
  go_ret
  exact ⟨rfl,B0.out⟩
 ·have q0:=H0.out _ HA.out L (by omega) (by omega)
  rw [Zg f0] at q0
  have hdd:d = -1:=by rw [HD.out];exact Zg (by omega)
  subst hdd
  replace q0:=Lib.hid q0
  go_enter Tryz.func163,Tryz.ntmps163
  go_wp2_with fail
  refine q0.out.mono ?_
  rintro e w1 ⟨rfl,hb0⟩
  have B0:=Lib.hid (HA.out.trans (hb0.mono HA.out.size))
  clear hb0
  go_wp2_with fail
  go_ret
  exact ⟨rfl,B0.out⟩
theorem Qro (w:World) (B:Nat) (es:List Value) (x:dOp) (h:shOp.reads (Qf B) w es x) (hB:B<=w.heap.size) (hb:shOp.bulk x<=1048576) :
  Calls Tryz.prog 173 #[.agg es.toArray] w fun e w' => ∃ es',e = .returned (.agg es'.toArray)/\shOp.reads (From w.heap.size w'.heap.size) w' es' x/\Below w.heap.size w w':=by
 obtain ⟨a0,n0,c0,rfl,⟨p0,r0,l0⟩⟩:=Q3.1 h
 rw [Z6] at hb
 have m0:n0<=1048576:=by have:=Qh Shape.int l0;omega
 have H0:=Lib.hid fun (w1:World) (hbw:Below w.heap.size w w1)=>J9 w1 B a0 n0 c0 _ (l0.below hbw hB) (Nat.le_trans hB hbw.size) (by omega)
 have hbx:=Boxes.start w #[.int .i64 x.1,.int .i64 x.2.1,.int .i64 x.2.2.1,.slice a0 n0 c0] #[.int .i64 0,.int .i64 0,.int .i64 0,.slice none 0 0] #[.int .i64 x.1,.int .i64 x.2.1,.int .i64 x.2.2.1,.slice none 0 0] 216 38
 clear h hb l0 r0 p0
 go_enter Tryz.func173,Tryz.ntmps173
 go_wp2_with fail
 generalize ((w.alloc (.cells #[.int .i64 x.1,.int .i64 x.2.1,.int .i64 x.2.2.1,.slice a0 n0 c0] 216 (0,0))).alloc (.cells #[.int .i64 0,.int .i64 0,.int .i64 0,.slice none 0 0] 38 (0,0))).alloc (.cells #[.int .i64 x.1,.int .i64 x.2.1,.int .i64 x.2.2.1,.slice none 0 0] 38 (0,0))=v0 at hbx |-
 have BX0:=Lib.hid hbx
 clear hbx
 refine (H0.out v0 BX0.out.below).mono ?_
 rintro e w1 ⟨rfl,hr0,hb0⟩
 have hbx:=BX0.out.call hb0
 have hlt0:=BX0.out.size
 have za0_0:w1.cell? ⟨w.heap.size,0,none⟩=_:=cell_of_row _ _ _ _ _ _ hbx.a
 have za0_1:w1.cell? ⟨w.heap.size,1,none⟩=_:=cell_of_row _ _ _ _ _ _ hbx.a
 have za0_2:w1.cell? ⟨w.heap.size,2,none⟩=_:=cell_of_row _ _ _ _ _ _ hbx.a
 have za0_3:w1.cell? ⟨w.heap.size,3,none⟩=_:=cell_of_row _ _ _ _ _ _ hbx.a
 have zo0_0:w1.cell? ⟨w.heap.size+1+1,0,none⟩=_:=cell_of_row _ _ _ _ _ _ hbx.o
 have zo0_1:w1.cell? ⟨w.heap.size+1+1,1,none⟩=_:=cell_of_row _ _ _ _ _ _ hbx.o
 have zo0_2:w1.cell? ⟨w.heap.size+1+1,2,none⟩=_:=cell_of_row _ _ _ _ _ _ hbx.o
 have zo0_3:w1.cell? ⟨w.heap.size+1+1,3,none⟩=_:=cell_of_row _ _ _ _ _ _ hbx.o
 have zr0_0:w1.cell? ⟨w.heap.size+1,0,none⟩=_:=cell_of_row _ _ _ _ _ _ hbx.z
 have zr0_1:w1.cell? ⟨w.heap.size+1,1,none⟩=_:=cell_of_row _ _ _ _ _ _ hbx.z
 have zr0_2:w1.cell? ⟨w.heap.size+1,2,none⟩=_:=cell_of_row _ _ _ _ _ _ hbx.z
 have zr0_3:w1.cell? ⟨w.heap.size+1,3,none⟩=_:=cell_of_row _ _ _ _ _ _ hbx.z
 have fo0_0:w1.frozen? ⟨w.heap.size+1+1,0,none⟩=false:=frozen_of_row _ _ _ _ _ hbx.o
 have fr0_0:w1.frozen? ⟨w.heap.size+1,0,none⟩=false:=frozen_of_row _ _ _ _ _ hbx.z
 have fo0_1:w1.frozen? ⟨w.heap.size+1+1,1,none⟩=false:=frozen_of_row _ _ _ _ _ hbx.o
 have fr0_1:w1.frozen? ⟨w.heap.size+1,1,none⟩=false:=frozen_of_row _ _ _ _ _ hbx.z
 have fo0_2:w1.frozen? ⟨w.heap.size+1+1,2,none⟩=false:=frozen_of_row _ _ _ _ _ hbx.o
 have fr0_2:w1.frozen? ⟨w.heap.size+1,2,none⟩=false:=frozen_of_row _ _ _ _ _ hbx.z
 have fo0_3:w1.frozen? ⟨w.heap.size+1+1,3,none⟩=false:=frozen_of_row _ _ _ _ _ hbx.o
 have fr0_3:w1.frozen? ⟨w.heap.size+1,3,none⟩=false:=frozen_of_row _ _ _ _ _ hbx.z
 simp only [List.setIfInBounds_toArray,List.set_cons_zero,List.set_cons_succ,List.getElem?_toArray,List.getElem?_cons_zero,List.getElem?_cons_succ] at za0_0 zo0_0 zr0_0 za0_1 zo0_1 zr0_1 za0_2 zo0_2 zr0_2 za0_3 zo0_3 zr0_3
 have N0_0:=hr0.lo (Nat.le_trans (by omega) hlt0:w.heap.size+3<=v0.heap.size)
 have hby:=(hbx.store 3 (.slice (some ⟨v0.heap.size,0,none⟩) n0 n0))
 have O0_0:=(N0_0.stored (w.heap.size+1+1) 3 (.slice (some ⟨v0.heap.size,0,none⟩) n0 n0) (by omega))
 replace hby:=Lib.hid hby
 replace O0_0:=Lib.hid O0_0
 clear N0_0
 clear hr0 hbx hb0
 go_wp2_with fail
 refine bodyPost_ret (results_cell_row rfl _ _ (w.heap.size+1) 38 #[.int .i64 x.1,.int .i64 x.2.1,.int .i64 x.2.2.1,.slice (some ⟨v0.heap.size,0,none⟩) n0 n0] (0,0) _ rfl ?_ Tryz.underlying38 rfl (by kernel_rfl)) rfl ?_
 ·exact hby.out.result [.int .i64 x.1,.int .i64 x.2.1,.int .i64 x.2.2.1,.slice (some ⟨v0.heap.size,0,none⟩) n0 n0] rfl
 refine ⟨[.int .i64 x.1,.int .i64 x.2.1,.int .i64 x.2.2.1,.slice (some ⟨v0.heap.size,0,none⟩) n0 n0],rfl,?_,hby.out.last [.int .i64 x.1,.int .i64 x.2.1,.int .i64 x.2.2.1,.slice (some ⟨v0.heap.size,0,none⟩) n0 n0]⟩
 exact Q3.2 ⟨_,_,_,rfl,⟨Nat.le_refl _,by omega,(O0_0.out.storedAll (w.heap.size+1) 0 [.int .i64 x.1,.int .i64 x.2.1,.int .i64 x.2.2.1,.slice (some ⟨v0.heap.size,0,none⟩) n0 n0] (by omega)).lo (by omega)⟩⟩
theorem Qrp (w:World) (B B':Nat) (es es':List Value) (x:dOp) (h:shOp.reads (Qf B) w es x) (h':shOp.reads (Qf B') w es' x) (hB:B<=w.heap.size) (hB':B'<=w.heap.size) (hb:shOp.bulk x<=1048576) :
  Calls Tryz.prog 177 #[.agg es.toArray,.agg es'.toArray] w fun e w'=>e = .returned (.bool true)/\Below w.heap.size w w':=by
 obtain ⟨a0,n0,c0,rfl,⟨-,-,l0⟩⟩:=Q3.1 h
 obtain ⟨b0,nb0,cb0,rfl,⟨-,-,m0⟩⟩:=Q3.1 h'
 obtain rfl:nb0=n0:=by rw [<- l0.1,<- m0.1]
 rw [Z6] at hb
 have ha:=((Below.refl w.heap.size w).alloc (Nat.le_refl _) (.cells #[.int .i64 x.1,.int .i64 x.2.1,.int .i64 x.2.2.1,.slice a0 nb0 c0] 38 (0,0))).alloc (by simp) (.cells #[.int .i64 x.1,.int .i64 x.2.1,.int .i64 x.2.2.1,.slice b0 nb0 cb0] 38 (0,0))
 have hA:((w.alloc (.cells #[.int .i64 x.1,.int .i64 x.2.1,.int .i64 x.2.2.1,.slice a0 nb0 c0] 38 (0,0))).alloc (.cells #[.int .i64 x.1,.int .i64 x.2.1,.int .i64 x.2.2.1,.slice b0 nb0 cb0] 38 (0,0))).heap[w.heap.size]? = some (.cells #[.int .i64 x.1,.int .i64 x.2.1,.int .i64 x.2.2.1,.slice a0 nb0 c0] 38 (0,0)):=by
  rw [Below.heap_alloc _ _ _ (by simp)]
  exact heap_alloc_new w _
 have hC:((w.alloc (.cells #[.int .i64 x.1,.int .i64 x.2.1,.int .i64 x.2.2.1,.slice a0 nb0 c0] 38 (0,0))).alloc (.cells #[.int .i64 x.1,.int .i64 x.2.1,.int .i64 x.2.2.1,.slice b0 nb0 cb0] 38 (0,0))).heap[w.heap.size+1]? = some (.cells #[.int .i64 x.1,.int .i64 x.2.1,.int .i64 x.2.2.1,.slice b0 nb0 cb0] 38 (0,0)):=by
  have:=heap_alloc_new (w.alloc (.cells #[.int .i64 x.1,.int .i64 x.2.1,.int .i64 x.2.2.1,.slice a0 nb0 c0] 38 (0,0))) (.cells #[.int .i64 x.1,.int .i64 x.2.1,.int .i64 x.2.2.1,.slice b0 nb0 cb0] 38 (0,0))
  simpa using this
 have hS:w.heap.size+1<((w.alloc (.cells #[.int .i64 x.1,.int .i64 x.2.1,.int .i64 x.2.2.1,.slice a0 nb0 c0] 38 (0,0))).alloc (.cells #[.int .i64 x.1,.int .i64 x.2.1,.int .i64 x.2.2.1,.slice b0 nb0 cb0] 38 (0,0))).heap.size:=by simp
 have H0:=Lib.hid fun (w1:World) (hbw:Below w.heap.size w w1)=>Qba w1 B B' a0 b0 nb0 c0 cb0 _ (l0.below hbw hB) (m0.below hbw hB') (Nat.le_trans hB hbw.size) (Nat.le_trans hB' hbw.size) (by omega)
 have HA:=Lib.hid ha
 have XA:=Lib.hid hA
 have XC:=Lib.hid hC
 have HS:=Lib.hid hS
 clear h h' hb ha hA hC hS l0 m0
 go_enter Tryz.func177,Tryz.ntmps177
 go_wp2_with fail
 refine (H0.out _ HA.out).mono ?_
 rintro e w1 ⟨rfl,hb0⟩
 have B0:=Lib.hid (HA.out.trans (hb0.mono HA.out.size))
 clear hb0
 go_wp2_with fail
 go_ret
 exact ⟨rfl,B0.out⟩
theorem Qqm (w:World) (B:Nat) (a:Option Addr) (n c:Nat) (xs:List dOp) (L:Int) (h:Qb shOp (Qf B) w a n xs) (hB:B<=w.heap.size) (hn:n<=9223372036854775807) (h0:0<=L) (h1:L<=1048576) :
  Calls Tryz.prog 68 #[.slice a n c,.int .i64 L] w fun e w'=>e = .returned (.int .i64 (szN ((Shape.list shOp).bulk xs) L))/\Below w.heap.size w w':=by
 obtain ⟨d,hd⟩ : ∃ d,d=szN ((Shape.list shOp).bulk xs) L:=⟨_,rfl⟩
 rw [<- hd]
 have hbk:(Shape.list shOp).bulk xs=n+Shape.sum shOp.bulk xs:=by rw [<- h.1];rfl
 rw [hbk] at hd
 have HD:=Lib.hid hd
 have HL:=Lib.hid h
 clear hd hbk h
 by_cases hnL:(n:Int)<=L
 ·have hw:wrap64 (L-n)=L-n:=IntWalk.wrap64_in (L-n) (by omega)
  have hlt0:decide (L-(n:Int)<0)=false:=decide_eq_false (by omega)
  obtain ⟨M,hM⟩ : ∃ M:Int,L-n=M:=⟨_,rfl⟩
  rw [hM] at hw hlt0
  go_enter Tryz.func68,Tryz.ntmps68
  go_wp2_with fail
  go_loopw [1,5] (fun l i wr => ∃ (k:Nat) (V:Int),k<=n/\i = .int .i64 k/\l = .int .i64 V/\0<=V/\V<=1048576/\Hid (V=M-Shape.sum shOp.bulk (xs.take k))/\Below w.heap.size w wr) (fun _ i _=>n-(intOf i).toNat)
  case atStart=>exact ⟨0,M,Nat.zero_le _,rfl,rfl,by omega,by omega,Lib.hid (by simp [Shape.sum]),Below.refl _ _⟩
  case round =>
   obtain ⟨k,V,hk,rfl,rfl,hV0,hV1,hV,hbw⟩:=hrel
   by_cases hlt:k<n
   ·have hx : ∃ x,xs[k]? = some x:=⟨_,List.getElem?_eq_getElem (by rw [HL.out.1];exact hlt)⟩
    obtain ⟨x,hx⟩:=hx
    obtain ⟨b,o,es,rfl,hbB,hr,hs⟩:=HL.out.2 k x hx
    have hsz:=hbw.size
    have hrr:=Qr hr (show b<w.heap.size from Nat.lt_of_lt_of_le hbB hB) (Kept.of_below (I:=Qf w.heap.size) hbw fun b hb=>hb)
    have HS:=Lib.hid (Qrn wr _ es x V (shOp.below (shOp.le hs hB) hbw (Nat.le_refl _)) hsz hV0 hV1)
    have HST:=Lib.hid (J8 shOp.bulk xs k x hx)
    have HTL:=Lib.hid (Zu shOp.bulk xs (k+1))
    have HBW:=Lib.hid hbw
    obtain ⟨u,hu⟩ : ∃ u,shOp.bulk x=u:=⟨_,rfl⟩
    rw [hu] at HS HST
    obtain ⟨ae0,ne0,ce0,rfl,-⟩:=Q3.1 hs
    rw [Zd] at hrr
    have c0:=hrr 0 _ rfl
    have c1:=hrr 1 _ rfl
    have c2:=hrr 2 _ rfl
    have c3:=hrr 3 _ rfl
    simp only [Nat.add_zero] at c0
    try dsimp only at c0 c1 c2 c3 HS
    clear hr hrr hs hx hu hbw
    by_cases hfit:(u:Int)<=V
    ·rw [Zm hfit] at HS
     obtain ⟨V',hV'⟩ : ∃ V',V-(u:Int)=V':=⟨_,rfl⟩
     rw [hV'] at HS
     have hneg:decide (V'<0)=false:=decide_eq_false (by omega)
     go_wp2_with fail
     refine HS.out.mono ?_
     rintro e w' ⟨rfl,hb2⟩
     have HB2:=Lib.hid hb2
     clear hb2
     go_wp2_with fail
     go_round
     case rel=>exact ⟨k+1,V',by omega,by go_num,rfl,by omega,by omega,Lib.hid (by have e1:=HST.out;have e2:=hV.out;omega),HBW.out.trans (HB2.out.mono hsz)⟩
     case measure=>simp [intOf];omega
    ·rw [Zg hfit] at HS
     have hdd:d = -1:=by
      rw [HD.out]
      refine Zg ?_
      have e1:=HST.out
      have e2:=HTL.out
      have e3:=hV.out
      omega
     subst hdd
     go_wp2_with fail
     refine HS.out.mono ?_
     rintro e w' ⟨rfl,hb2⟩
     have HB2:=Lib.hid hb2
     clear hb2
     go_wp2_with fail
     go_ret
     exact ⟨rfl,HBW.out.trans (HB2.out.mono hsz)⟩
   ·have hkn:k=n:=by omega
    subst hkn
    have hdd:V=d:=by
     rw [HD.out]
     have e1:=hV.out
     have e2:xs.take k=xs:=List.take_of_length_le (by rw [HL.out.1];exact Nat.le_refl _)
     rw [e2] at e1
     rw [Zm (by omega)]
     omega
    subst hdd
    have HBW:=Lib.hid hbw
    clear hbw
    go_wp2_with fail
    go_ret
    exact ⟨rfl,HBW.out⟩
 ·have hdd:d = -1:=by rw [HD.out];exact Zg (by omega)
  subst hdd
  have hw:wrap64 (L-n)=L-n:=IntWalk.wrap64_in (L-n) (by omega)
  have hlt0:decide (L-(n:Int)<0)=true:=decide_eq_true (by omega)
  obtain ⟨M,hM⟩ : ∃ M:Int,L-n=M:=⟨_,rfl⟩
  rw [hM] at hw hlt0
  go_enter Tryz.func68,Tryz.ntmps68
  go_wp2_with fail
  go_ret
  exact ⟨rfl,Below.refl _ _⟩
theorem Qcn:(Tryz.prog.info? 38).map (fun i=>(i.zero,i.size,i.bytes))=some (some (.agg #[.int .i64 0,.int .i64 0,.int .i64 0,.slice none 0 0]),4,48):=by kernel_rfl
theorem Qqn (w:World) (B:Nat) (a:Option Addr) (n c:Nat) (xs:List dOp) (h:Qb shOp (Qf B) w a n xs) (hB:B<=w.heap.size) (hb:(Shape.list shOp).bulk xs<=1048576) :
  Calls Tryz.prog 78 #[.slice a n c] w fun e w'=>e = .returned (.slice (some ⟨w.heap.size,0,none⟩) n n)/\Qb shOp (From w.heap.size w'.heap.size) w' (some ⟨w.heap.size,0,none⟩) n xs/\Below w.heap.size w w':=by
 have hbk:(Shape.list shOp).bulk xs=n+Shape.sum shOp.bulk xs:=by rw [<- h.1];rfl
 rw [hbk] at hb
 have hmk:=Jg (P:=Tryz.prog) 25 38 _ 4 48 Tryz.underlying25 Qcn n (by omega) (by omega)
 have hst:=Filled.start shOp w n xs (Value.agg #[.int .i64 0,.int .i64 0,.int .i64 0,.slice none 0 0]).cells 38
 replace hst:=Lib.hid hst
 have HL:=Lib.hid h
 have HB:=Lib.hid hb
 have hn1:n<=1048576:=by omega
 clear hbk h hb
 go_enter Tryz.func78,Tryz.ntmps78
 go_wp2_with fail
 go_loopw [4] (fun i wr => ∃ k:Nat,k<=n/\i = .int .i64 k/\Filled shOp w wr n k xs) (fun i _=>n-(intOf i).toNat)
 case atStart=>exact ⟨0,Nat.zero_le _,rfl,hst.out⟩
 case round =>
  obtain ⟨k,hk,rfl,hf⟩:=hrel
  by_cases hlt:k<n
  ·obtain ⟨x,hx⟩ : ∃ x,xs[k]? = some x:=⟨_,List.getElem?_eq_getElem (by rw [HL.out.1];exact hlt)⟩
   obtain ⟨b,o,es,rfl,hbB,hr,hs⟩:=HL.out.2 k x hx
   have hfb:=hf.below
   have hfl:=hf.lt
   have hth0:=hf.rest
   have hrr:=Qr hr (show b<w.heap.size from Nat.lt_of_lt_of_le hbB hB) (Kept.of_below (I:=Qf w.heap.size) hfb fun b hb=>hb)
   have HS:=Lib.hid (Qro wr _ es x (shOp.below (shOp.le hs hB) hfb (Nat.le_refl _)) (Nat.le_of_lt hfl) (by have h1:=Qz shOp.bulk xs k x hx;have h2:=HB.out;omega))
   have HF:=Lib.hid hf
   have HX:=Lib.hid hx
   have HT:=Lib.hid hth0
   obtain ⟨ae0,ne0,ce0,rfl,-⟩:=Q3.1 hs
   rw [Zd] at hrr
   have c0:=hrr 0 _ rfl
   have c1:=hrr 1 _ rfl
   have c2:=hrr 2 _ rfl
   have c3:=hrr 3 _ rfl
   simp only [Nat.add_zero] at c0
   try dsimp only at c0 c1 c2 c3 HS
   clear hr hrr hs hx hf hth0
   go_wp2_with fail
   clear c0 c1 c2 c3
   refine HS.out.mono ?_
   rintro e w1 ⟨es',rfl,hs',hb1⟩
   have hn4:4<=(n-k)*shOp.size:=by rw [Zd];omega
   have hth:=Jw HT.out hb1 hfl
   have hN:=HF.out.step hlt hb1 HX.out hs'
   have HN:=Lib.hid hN
   have HB1:=Lib.hid hb1
   obtain ⟨af0,nf0,cf0,rfl,-⟩:=Q3.1 hs'
   obtain ⟨⟨v0,d0⟩,f0⟩:=Zl hth 0 (by omega)
   obtain ⟨⟨v1,d1⟩,f1⟩:=Zl hth 1 (by omega)
   obtain ⟨⟨v2,d2⟩,f2⟩:=Zl hth 2 (by omega)
   obtain ⟨⟨v3,d3⟩,f3⟩:=Zl hth 3 (by omega)
   rw [Zd] at d0 d1 d2 d3 f0 f1 f2 f3
   simp only [Nat.add_zero] at d0 f0
   clear hs' hb1 hth hN
   go_wp2_with fail
   go_round
   case rel=>exact ⟨k+1,by omega,by go_num,HN.out⟩
   case measure=>simp [intOf];omega
  ·obtain rfl:k=n:=by omega
   have hz:=hf.below
   have HF:=Lib.hid hf
   clear hf hz
   go_wp2_with fail
   go_ret
   exact ⟨rfl,HF.out.list HL.out.1,HF.out.below⟩
theorem Qqo (w:World) (B B':Nat) (a a':Option Addr) (n c c':Nat) (xs:List dOp) (h:Qb shOp (Qf B) w a n xs) (h':Qb shOp (Qf B') w a' n xs) (hB:B<=w.heap.size) (hB':B'<=w.heap.size) (hb:(Shape.list shOp).bulk xs<=1048576) :
  Calls Tryz.prog 83 #[.slice a n c,.slice a' n c'] w fun e w'=>e = .returned (.bool true)/\Below w.heap.size w w':=by
 have hbk:(Shape.list shOp).bulk xs=n+Shape.sum shOp.bulk xs:=by rw [<- h.1];rfl
 rw [hbk] at hb
 have hn1:n<=1048576:=by omega
 have HL:=Lib.hid (h.le hB)
 have HL':=Lib.hid (h'.le hB')
 have HB:=Lib.hid hb
 clear hbk h h' hb
 go_enter Tryz.func83,Tryz.ntmps83
 go_wp2_with fail
 go_loopw [5] (fun i wr => ∃ k:Nat,k<=n/\i = .int .i64 k/\Below w.heap.size w wr) (fun i _=>n-(intOf i).toNat)
 case atStart=>exact ⟨0,Nat.zero_le _,rfl,Below.refl _ _⟩
 case round =>
  obtain ⟨k,hk,rfl,hbw⟩:=hrel
  by_cases hlt:k<n
  ·obtain ⟨x,hx⟩ : ∃ x,xs[k]? = some x:=⟨_,List.getElem?_eq_getElem (by rw [HL.out.1];exact hlt)⟩
   obtain ⟨b,o,es,rfl,hbB,hr,hs⟩:=HL.out.2 k x hx
   obtain ⟨b',o',es',rfl,hbB',hr',hs'⟩:=HL'.out.2 k x hx
   have hsz:=hbw.size
   have hrr:=Qr hr (show b<w.heap.size from hbB) (Kept.of_below (I:=Qf w.heap.size) hbw fun b hb=>hb)
   have hrr':=Qr hr' (show b'<w.heap.size from hbB') (Kept.of_below (I:=Qf w.heap.size) hbw fun b hb=>hb)
   have hsw:=shOp.below hs hbw (Nat.le_refl _)
   have hsw':=shOp.below hs' hbw (Nat.le_refl _)
   have hbx:shOp.bulk x<=1048576:=by have h1:=Qz shOp.bulk xs k x hx;have h2:=HB.out;omega
   have HC:=Lib.hid fun (w1:World) (hb1:Below w.heap.size wr w1)=>Qrp w1 _ _ es es' x (shOp.below hsw hb1 (Nat.le_refl _)) (shOp.below hsw' hb1 (Nat.le_refl _)) (Nat.le_trans hsz hb1.size) (Nat.le_trans hsz hb1.size) hbx
   have HBW:=Lib.hid hbw
   obtain ⟨ae0,ne0,ce0,rfl,-⟩:=Q3.1 hs
   obtain ⟨af0,nf0,cf0,rfl,-⟩:=Q3.1 hs'
   rw [Zd] at hrr hrr'
   have c0:=hrr 0 _ rfl
   have c1:=hrr 1 _ rfl
   have c2:=hrr 2 _ rfl
   have c3:=hrr 3 _ rfl
   have d0:=hrr' 0 _ rfl
   have d1:=hrr' 1 _ rfl
   have d2:=hrr' 2 _ rfl
   have d3:=hrr' 3 _ rfl
   simp only [Nat.add_zero] at c0 d0
   try dsimp only at c0 d0 c1 d1 c2 d2 c3 d3 HC
   clear hr hr' hrr hrr' hs hs' hsw hsw' hx hbw hbx
   go_upto_region 6 with fail
   have k0:=cell_regrown c0
   have l0:=cell_regrown d0
   have k1:=cell_regrown c1
   have l1:=cell_regrown d1
   have k2:=cell_regrown c2
   have l2:=cell_regrown d2
   have k3:=cell_regrown c3
   have l3:=cell_regrown d3
   have cC:=fun d os=>Calls.regrown_of (w:=wr) (d:=d) (os:=os) (HC.out _ ((below_regrown wr d os).mono hsz))
   have CC:=Lib.hid cC
   clear c0 d0 c1 d1 c2 d2 c3 d3 cC
   refine wp_region_quiet_below (by kernel_rfl) (by kernel_rfl) ?_
   repeat (go_big_quiet_step (with_reducible first | exact CC.out _ _))
   refine wpQuiet_nil ?_
   intro _ hw'
   obtain ⟨⟨dq,osq⟩,hw''⟩:=hw'
   subst hw''
   have hwq:=below_regrown wr dq osq
   generalize grow (redrawn wr dq) osq=w1 at hwq |-
   have HW:=Lib.hid hwq
   clear hwq k0 l0 k1 l1 k2 l2 k3 l3
   go_wp2_with fail
   go_round
   case rel=>exact ⟨k+1,by omega,by go_num,HBW.out.trans (HW.out.mono hsz)⟩
   case measure=>simp [intOf];omega
  ·obtain rfl:k=n:=by omega
   have HBW:=Lib.hid hbw
   clear hbw
   go_wp2_with fail
   go_ret
   exact ⟨rfl,HBW.out⟩
abbrev dRow:=List Int
def Qi:Shape dRow:= .struct (.last (Shape.list Shape.int))
theorem Jr:Qi.size=1:=rfl
theorem Ze {I:Nat->Prop} {w:World} {cs:List Value} {d:dRow}:Qi.reads I w cs d ↔ ∃ a0 n0 c0,cs=[.slice a0 n0 c0]/\(n0<=c0/\c0<=9223372036854775807/\Qb Shape.int I w a0 n0 d):=by
 constructor
 ·rintro ⟨a0,n0,c0,rfl,g0⟩
  exact ⟨a0,n0,c0,rfl,g0⟩
 ·rintro ⟨a0,n0,c0,rfl,g0⟩
  exact ⟨a0,n0,c0,rfl,g0⟩
theorem Zs (d:dRow):Qi.bulk d=(Shape.list Shape.int).bulk d:=by
 rfl
theorem Qqp (w:World) (B:Nat) (es:List Value) (x:dRow) (L:Int) (h:Qi.reads (Qf B) w es x) (hB:B<=w.heap.size) (h0:0<=L) (h1:L<=1048576) :
  Calls Tryz.prog 165 #[.agg es.toArray,.int .i64 L] w fun e w'=>e = .returned (.int .i64 (szN (Qi.bulk x) L))/\Below w.heap.size w w':=by
 obtain ⟨a0,n0,c0,rfl,⟨p0,r0,l0⟩⟩:=Ze.1 h
 rw [Zs]
 have ha:=(Below.refl w.heap.size w).alloc (Nat.le_refl _) (.cells #[.slice a0 n0 c0] 221 (0,0))
 have hb0:=heap_alloc_new w (.cells #[.slice a0 n0 c0] 221 (0,0))
 have hs0:w.heap.size<(w.alloc (.cells #[.slice a0 n0 c0] 221 (0,0))).heap.size:=by simp
 have H0:=fun (w1:World) (hb:Below w.heap.size w w1) (V:Int) (g0:0<=V) (g1:V<=1048576)=>Qcm w1 B a0 n0 c0 _ V (l0.below hb hB) (Nat.le_trans hB hb.size) (by omega) g0 g1
 obtain ⟨u0,hu0⟩ : ∃ u,(Shape.list Shape.int).bulk x=u:=⟨_,rfl⟩
 simp only [hu0] at H0 |-
 replace H0:=Lib.hid H0
 have HA:=Lib.hid ha
 have HB0:=Lib.hid hb0
 have HS0:=Lib.hid hs0
 clear ha hb0 hs0 h hu0
 clear p0 r0 l0
 obtain ⟨d,hd⟩ : ∃ d,d=szN (u0) L:=⟨_,rfl⟩
 rw [<- hd]
 replace HD:=Lib.hid hd
 clear hd
 by_cases f0:(u0:Int)<=L
 ·have q0:=H0.out _ HA.out L (by omega) (by omega)
  rw [Zm f0] at q0
  obtain ⟨V0,hV0⟩ : ∃ V',L-(u0:Int)=V':=⟨_,rfl⟩
  rw [hV0] at q0
  have t0:decide (V0<0)=false:=decide_eq_false (by omega)
  have hdd:V0=d:=by rw [HD.out,Zm (by omega)];omega
  subst hdd
  replace q0:=Lib.hid q0
  go_enter Tryz.func165,Tryz.ntmps165
  go_wp2_with fail
  refine q0.out.mono ?_
  rintro e w1 ⟨rfl,hb0⟩
  have B0:=Lib.hid (HA.out.trans (hb0.mono HA.out.size))
  clear hb0
  go_wp2_with fail
  go_ret
  exact ⟨rfl,B0.out⟩
 ·have q0:=H0.out _ HA.out L (by omega) (by omega)
  rw [Zg f0] at q0
  have hdd:d = -1:=by rw [HD.out];exact Zg (by omega)
  subst hdd
  replace q0:=Lib.hid q0
  go_enter Tryz.func165,Tryz.ntmps165
  go_wp2_with fail
  refine q0.out.mono ?_
  rintro e w1 ⟨rfl,hb0⟩
  have B0:=Lib.hid (HA.out.trans (hb0.mono HA.out.size))
  clear hb0
  go_wp2_with fail
  go_ret
  exact ⟨rfl,B0.out⟩
theorem Qqq (w:World) (B:Nat) (es:List Value) (x:dRow) (h:Qi.reads (Qf B) w es x) (hB:B<=w.heap.size) (hb:Qi.bulk x<=1048576) :
  Calls Tryz.prog 175 #[.agg es.toArray] w fun e w' => ∃ es',e = .returned (.agg es'.toArray)/\Qi.reads (From w.heap.size w'.heap.size) w' es' x/\Below w.heap.size w w':=by
 obtain ⟨a0,n0,c0,rfl,⟨p0,r0,l0⟩⟩:=Ze.1 h
 rw [Zs] at hb
 have m0:n0<=1048576:=by have:=Qh Shape.int l0;omega
 have H0:=Lib.hid fun (w1:World) (hbw:Below w.heap.size w w1)=>J9 w1 B a0 n0 c0 _ (l0.below hbw hB) (Nat.le_trans hB hbw.size) (by omega)
 have hbx:=Boxes.start w #[.slice a0 n0 c0] #[.slice none 0 0] #[.slice none 0 0] 221 95
 clear h hb l0 r0 p0
 go_enter Tryz.func175,Tryz.ntmps175
 go_wp2_with fail
 generalize ((w.alloc (.cells #[.slice a0 n0 c0] 221 (0,0))).alloc (.cells #[.slice none 0 0] 95 (0,0))).alloc (.cells #[.slice none 0 0] 95 (0,0))=v0 at hbx |-
 have BX0:=Lib.hid hbx
 clear hbx
 refine (H0.out v0 BX0.out.below).mono ?_
 rintro e w1 ⟨rfl,hr0,hb0⟩
 have hbx:=BX0.out.call hb0
 have hlt0:=BX0.out.size
 have za0_0:w1.cell? ⟨w.heap.size,0,none⟩=_:=cell_of_row _ _ _ _ _ _ hbx.a
 have zo0_0:w1.cell? ⟨w.heap.size+1+1,0,none⟩=_:=cell_of_row _ _ _ _ _ _ hbx.o
 have zr0_0:w1.cell? ⟨w.heap.size+1,0,none⟩=_:=cell_of_row _ _ _ _ _ _ hbx.z
 have fo0_0:w1.frozen? ⟨w.heap.size+1+1,0,none⟩=false:=frozen_of_row _ _ _ _ _ hbx.o
 have fr0_0:w1.frozen? ⟨w.heap.size+1,0,none⟩=false:=frozen_of_row _ _ _ _ _ hbx.z
 simp only [List.setIfInBounds_toArray,List.set_cons_zero,List.set_cons_succ,List.getElem?_toArray,List.getElem?_cons_zero,List.getElem?_cons_succ] at za0_0 zo0_0 zr0_0
 have N0_0:=hr0.lo (Nat.le_trans (by omega) hlt0:w.heap.size+3<=v0.heap.size)
 have hby:=(hbx.store 0 (.slice (some ⟨v0.heap.size,0,none⟩) n0 n0))
 have O0_0:=(N0_0.stored (w.heap.size+1+1) 0 (.slice (some ⟨v0.heap.size,0,none⟩) n0 n0) (by omega))
 replace hby:=Lib.hid hby
 replace O0_0:=Lib.hid O0_0
 clear N0_0
 clear hr0 hbx hb0
 go_wp2_with fail
 refine bodyPost_ret (results_cell_row rfl _ _ (w.heap.size+1) 95 #[.slice (some ⟨v0.heap.size,0,none⟩) n0 n0] (0,0) _ rfl ?_ Tryz.underlying95 rfl (by kernel_rfl)) rfl ?_
 ·exact hby.out.result [.slice (some ⟨v0.heap.size,0,none⟩) n0 n0] rfl
 refine ⟨[.slice (some ⟨v0.heap.size,0,none⟩) n0 n0],rfl,?_,hby.out.last [.slice (some ⟨v0.heap.size,0,none⟩) n0 n0]⟩
 exact Ze.2 ⟨_,_,_,rfl,⟨Nat.le_refl _,by omega,(O0_0.out.storedAll (w.heap.size+1) 0 [.slice (some ⟨v0.heap.size,0,none⟩) n0 n0] (by omega)).lo (by omega)⟩⟩
theorem Qqr (w:World) (B B':Nat) (es es':List Value) (x:dRow) (h:Qi.reads (Qf B) w es x) (h':Qi.reads (Qf B') w es' x) (hB:B<=w.heap.size) (hB':B'<=w.heap.size) (hb:Qi.bulk x<=1048576) :
  Calls Tryz.prog 179 #[.agg es.toArray,.agg es'.toArray] w fun e w'=>e = .returned (.bool true)/\Below w.heap.size w w':=by
 obtain ⟨a0,n0,c0,rfl,⟨-,-,l0⟩⟩:=Ze.1 h
 obtain ⟨b0,nb0,cb0,rfl,⟨-,-,m0⟩⟩:=Ze.1 h'
 obtain rfl:nb0=n0:=by rw [<- l0.1,<- m0.1]
 rw [Zs] at hb
 have ha:=((Below.refl w.heap.size w).alloc (Nat.le_refl _) (.cells #[.slice a0 nb0 c0] 95 (0,0))).alloc (by simp) (.cells #[.slice b0 nb0 cb0] 95 (0,0))
 have hA:((w.alloc (.cells #[.slice a0 nb0 c0] 95 (0,0))).alloc (.cells #[.slice b0 nb0 cb0] 95 (0,0))).heap[w.heap.size]? = some (.cells #[.slice a0 nb0 c0] 95 (0,0)):=by
  rw [Below.heap_alloc _ _ _ (by simp)]
  exact heap_alloc_new w _
 have hC:((w.alloc (.cells #[.slice a0 nb0 c0] 95 (0,0))).alloc (.cells #[.slice b0 nb0 cb0] 95 (0,0))).heap[w.heap.size+1]? = some (.cells #[.slice b0 nb0 cb0] 95 (0,0)):=by
  have:=heap_alloc_new (w.alloc (.cells #[.slice a0 nb0 c0] 95 (0,0))) (.cells #[.slice b0 nb0 cb0] 95 (0,0))
  simpa using this
 have hS:w.heap.size+1<((w.alloc (.cells #[.slice a0 nb0 c0] 95 (0,0))).alloc (.cells #[.slice b0 nb0 cb0] 95 (0,0))).heap.size:=by simp
 have H0:=Lib.hid fun (w1:World) (hbw:Below w.heap.size w w1)=>Qba w1 B B' a0 b0 nb0 c0 cb0 _ (l0.below hbw hB) (m0.below hbw hB') (Nat.le_trans hB hbw.size) (Nat.le_trans hB' hbw.size) (by omega)
 have HA:=Lib.hid ha
 have XA:=Lib.hid hA
 have XC:=Lib.hid hC
 have HS:=Lib.hid hS
 clear h h' hb ha hA hC hS l0 m0
 go_enter Tryz.func179,Tryz.ntmps179
 go_wp2_with fail
 refine (H0.out _ HA.out).mono ?_
 rintro e w1 ⟨rfl,hb0⟩
 have B0:=Lib.hid (HA.out.trans (hb0.mono HA.out.size))
 clear hb0
 go_wp2_with fail
 go_ret
 exact ⟨rfl,B0.out⟩
theorem Qhb (w:World) (B:Nat) (a:Option Addr) (n c:Nat) (xs:List dRow) (L:Int) (h:Qb Qi (Qf B) w a n xs) (hB:B<=w.heap.size) (hn:n<=9223372036854775807) (h0:0<=L) (h1:L<=1048576) :
  Calls Tryz.prog 70 #[.slice a n c,.int .i64 L] w fun e w'=>e = .returned (.int .i64 (szN ((Shape.list Qi).bulk xs) L))/\Below w.heap.size w w':=by
 obtain ⟨d,hd⟩ : ∃ d,d=szN ((Shape.list Qi).bulk xs) L:=⟨_,rfl⟩
 rw [<- hd]
 have hbk:(Shape.list Qi).bulk xs=n+Shape.sum Qi.bulk xs:=by rw [<- h.1];rfl
 rw [hbk] at hd
 have HD:=Lib.hid hd
 have HL:=Lib.hid h
 clear hd hbk h
 by_cases hnL:(n:Int)<=L
 ·have hw:wrap64 (L-n)=L-n:=IntWalk.wrap64_in (L-n) (by omega)
  have hlt0:decide (L-(n:Int)<0)=false:=decide_eq_false (by omega)
  obtain ⟨M,hM⟩ : ∃ M:Int,L-n=M:=⟨_,rfl⟩
  rw [hM] at hw hlt0
  go_enter Tryz.func70,Tryz.ntmps70
  go_wp2_with fail
  go_loopw [1,5] (fun l i wr => ∃ (k:Nat) (V:Int),k<=n/\i = .int .i64 k/\l = .int .i64 V/\0<=V/\V<=1048576/\Hid (V=M-Shape.sum Qi.bulk (xs.take k))/\Below w.heap.size w wr) (fun _ i _=>n-(intOf i).toNat)
  case atStart=>exact ⟨0,M,Nat.zero_le _,rfl,rfl,by omega,by omega,Lib.hid (by simp [Shape.sum]),Below.refl _ _⟩
  case round =>
   obtain ⟨k,V,hk,rfl,rfl,hV0,hV1,hV,hbw⟩:=hrel
   by_cases hlt:k<n
   ·have hx : ∃ x,xs[k]? = some x:=⟨_,List.getElem?_eq_getElem (by rw [HL.out.1];exact hlt)⟩
    obtain ⟨x,hx⟩:=hx
    obtain ⟨b,o,es,rfl,hbB,hr,hs⟩:=HL.out.2 k x hx
    have hsz:=hbw.size
    have hrr:=Qr hr (show b<w.heap.size from Nat.lt_of_lt_of_le hbB hB) (Kept.of_below (I:=Qf w.heap.size) hbw fun b hb=>hb)
    have HS:=Lib.hid (Qqp wr _ es x V (Qi.below (Qi.le hs hB) hbw (Nat.le_refl _)) hsz hV0 hV1)
    have HST:=Lib.hid (J8 Qi.bulk xs k x hx)
    have HTL:=Lib.hid (Zu Qi.bulk xs (k+1))
    have HBW:=Lib.hid hbw
    obtain ⟨u,hu⟩ : ∃ u,Qi.bulk x=u:=⟨_,rfl⟩
    rw [hu] at HS HST
    obtain ⟨ae0,ne0,ce0,rfl,-⟩:=Ze.1 hs
    rw [Jr] at hrr
    rw [Nat.mul_one] at hrr
    have c0:=hrr 0 _ rfl
    simp only [Nat.add_zero] at c0
    try dsimp only at c0 HS
    clear hr hrr hs hx hu hbw
    by_cases hfit:(u:Int)<=V
    ·rw [Zm hfit] at HS
     obtain ⟨V',hV'⟩ : ∃ V',V-(u:Int)=V':=⟨_,rfl⟩
     rw [hV'] at HS
     have hneg:decide (V'<0)=false:=decide_eq_false (by omega)
     go_wp2_with fail
     refine HS.out.mono ?_
     rintro e w' ⟨rfl,hb2⟩
     have HB2:=Lib.hid hb2
     clear hb2
     go_wp2_with fail
     go_round
     case rel=>exact ⟨k+1,V',by omega,by go_num,rfl,by omega,by omega,Lib.hid (by have e1:=HST.out;have e2:=hV.out;omega),HBW.out.trans (HB2.out.mono hsz)⟩
     case measure=>simp [intOf];omega
    ·rw [Zg hfit] at HS
     have hdd:d = -1:=by
      rw [HD.out]
      refine Zg ?_
      have e1:=HST.out
      have e2:=HTL.out
      have e3:=hV.out
      omega
     subst hdd
     go_wp2_with fail
     refine HS.out.mono ?_
     rintro e w' ⟨rfl,hb2⟩
     have HB2:=Lib.hid hb2
     clear hb2
     go_wp2_with fail
     go_ret
     exact ⟨rfl,HBW.out.trans (HB2.out.mono hsz)⟩
   ·have hkn:k=n:=by omega
    subst hkn
    have hdd:V=d:=by
     rw [HD.out]
     have e1:=hV.out
     have e2:xs.take k=xs:=List.take_of_length_le (by rw [HL.out.1];exact Nat.le_refl _)
     rw [e2] at e1
     rw [Zm (by omega)]
     omega
    subst hdd
    have HBW:=Lib.hid hbw
    clear hbw
    go_wp2_with fail
    go_ret
    exact ⟨rfl,HBW.out⟩
 ·have hdd:d = -1:=by rw [HD.out];exact Zg (by omega)
  subst hdd
  have hw:wrap64 (L-n)=L-n:=IntWalk.wrap64_in (L-n) (by omega)
  have hlt0:decide (L-(n:Int)<0)=true:=decide_eq_true (by omega)
  obtain ⟨M,hM⟩ : ∃ M:Int,L-n=M:=⟨_,rfl⟩
  rw [hM] at hw hlt0
  go_enter Tryz.func70,Tryz.ntmps70
  go_wp2_with fail
  go_ret
  exact ⟨rfl,Below.refl _ _⟩
theorem Qby:(Tryz.prog.info? 95).map (fun i=>(i.zero,i.size,i.bytes))=some (some (.agg #[.slice none 0 0]),1,24):=by kernel_rfl
theorem Qhc (w:World) (B:Nat) (a:Option Addr) (n c:Nat) (xs:List dRow) (h:Qb Qi (Qf B) w a n xs) (hB:B<=w.heap.size) (hb:(Shape.list Qi).bulk xs<=1048576) :
  Calls Tryz.prog 80 #[.slice a n c] w fun e w'=>e = .returned (.slice (some ⟨w.heap.size,0,none⟩) n n)/\Qb Qi (From w.heap.size w'.heap.size) w' (some ⟨w.heap.size,0,none⟩) n xs/\Below w.heap.size w w':=by
 have hbk:(Shape.list Qi).bulk xs=n+Shape.sum Qi.bulk xs:=by rw [<- h.1];rfl
 rw [hbk] at hb
 have hmk:=Jg (P:=Tryz.prog) 27 95 _ 1 24 Tryz.underlying27 Qby n (by omega) (by omega)
 have hst:=Filled.start Qi w n xs (Value.agg #[.slice none 0 0]).cells 95
 rw [Jr,Nat.mul_one] at hst
 replace hst:=Lib.hid hst
 have HL:=Lib.hid h
 have HB:=Lib.hid hb
 have hn1:n<=1048576:=by omega
 clear hbk h hb
 go_enter Tryz.func80,Tryz.ntmps80
 go_wp2_with fail
 go_loopw [4] (fun i wr => ∃ k:Nat,k<=n/\i = .int .i64 k/\Filled Qi w wr n k xs) (fun i _=>n-(intOf i).toNat)
 case atStart=>exact ⟨0,Nat.zero_le _,rfl,hst.out⟩
 case round =>
  obtain ⟨k,hk,rfl,hf⟩:=hrel
  by_cases hlt:k<n
  ·obtain ⟨x,hx⟩ : ∃ x,xs[k]? = some x:=⟨_,List.getElem?_eq_getElem (by rw [HL.out.1];exact hlt)⟩
   obtain ⟨b,o,es,rfl,hbB,hr,hs⟩:=HL.out.2 k x hx
   have hfb:=hf.below
   have hfl:=hf.lt
   have hth0:=hf.rest
   have hrr:=Qr hr (show b<w.heap.size from Nat.lt_of_lt_of_le hbB hB) (Kept.of_below (I:=Qf w.heap.size) hfb fun b hb=>hb)
   have HS:=Lib.hid (Qqq wr _ es x (Qi.below (Qi.le hs hB) hfb (Nat.le_refl _)) (Nat.le_of_lt hfl) (by have h1:=Qz Qi.bulk xs k x hx;have h2:=HB.out;omega))
   have HF:=Lib.hid hf
   have HX:=Lib.hid hx
   have HT:=Lib.hid hth0
   obtain ⟨ae0,ne0,ce0,rfl,-⟩:=Ze.1 hs
   rw [Jr] at hrr
   rw [Nat.mul_one] at hrr
   have c0:=hrr 0 _ rfl
   simp only [Nat.add_zero] at c0
   try dsimp only at c0 HS
   clear hr hrr hs hx hf hth0
   go_wp2_with fail
   clear c0
   refine HS.out.mono ?_
   rintro e w1 ⟨es',rfl,hs',hb1⟩
   have hn4:1<=(n-k)*Qi.size:=by rw [Jr];omega
   have hth:=Jw HT.out hb1 hfl
   have hN:=HF.out.step hlt hb1 HX.out hs'
   rw [Jr,Nat.mul_one] at hN
   have HN:=Lib.hid hN
   have HB1:=Lib.hid hb1
   obtain ⟨af0,nf0,cf0,rfl,-⟩:=Ze.1 hs'
   obtain ⟨⟨v0,d0⟩,f0⟩:=Zl hth 0 (by omega)
   rw [Jr] at d0 f0
   simp only [Nat.add_zero] at d0 f0
   rw [Nat.mul_one] at d0 f0
   clear hs' hb1 hth hN
   go_wp2_with fail
   go_round
   case rel=>exact ⟨k+1,by omega,by go_num,HN.out⟩
   case measure=>simp [intOf];omega
  ·obtain rfl:k=n:=by omega
   have hz:=hf.below
   have HF:=Lib.hid hf
   clear hf hz
   go_wp2_with fail
   go_ret
   exact ⟨rfl,HF.out.list HL.out.1,HF.out.below⟩
theorem Qhd (w:World) (B B':Nat) (a a':Option Addr) (n c c':Nat) (xs:List dRow) (h:Qb Qi (Qf B) w a n xs) (h':Qb Qi (Qf B') w a' n xs) (hB:B<=w.heap.size) (hB':B'<=w.heap.size) (hb:(Shape.list Qi).bulk xs<=1048576) :
  Calls Tryz.prog 85 #[.slice a n c,.slice a' n c'] w fun e w'=>e = .returned (.bool true)/\Below w.heap.size w w':=by
 have hbk:(Shape.list Qi).bulk xs=n+Shape.sum Qi.bulk xs:=by rw [<- h.1];rfl
 rw [hbk] at hb
 have hn1:n<=1048576:=by omega
 have HL:=Lib.hid (h.le hB)
 have HL':=Lib.hid (h'.le hB')
 have HB:=Lib.hid hb
 clear hbk h h' hb
 go_enter Tryz.func85,Tryz.ntmps85
 go_wp2_with fail
 go_loopw [5] (fun i wr => ∃ k:Nat,k<=n/\i = .int .i64 k/\Below w.heap.size w wr) (fun i _=>n-(intOf i).toNat)
 case atStart=>exact ⟨0,Nat.zero_le _,rfl,Below.refl _ _⟩
 case round =>
  obtain ⟨k,hk,rfl,hbw⟩:=hrel
  by_cases hlt:k<n
  ·obtain ⟨x,hx⟩ : ∃ x,xs[k]? = some x:=⟨_,List.getElem?_eq_getElem (by rw [HL.out.1];exact hlt)⟩
   obtain ⟨b,o,es,rfl,hbB,hr,hs⟩:=HL.out.2 k x hx
   obtain ⟨b',o',es',rfl,hbB',hr',hs'⟩:=HL'.out.2 k x hx
   have hsz:=hbw.size
   have hrr:=Qr hr (show b<w.heap.size from hbB) (Kept.of_below (I:=Qf w.heap.size) hbw fun b hb=>hb)
   have hrr':=Qr hr' (show b'<w.heap.size from hbB') (Kept.of_below (I:=Qf w.heap.size) hbw fun b hb=>hb)
   have hsw:=Qi.below hs hbw (Nat.le_refl _)
   have hsw':=Qi.below hs' hbw (Nat.le_refl _)
   have hbx:Qi.bulk x<=1048576:=by have h1:=Qz Qi.bulk xs k x hx;have h2:=HB.out;omega
   have HC:=Lib.hid fun (w1:World) (hb1:Below w.heap.size wr w1)=>Qqr w1 _ _ es es' x (Qi.below hsw hb1 (Nat.le_refl _)) (Qi.below hsw' hb1 (Nat.le_refl _)) (Nat.le_trans hsz hb1.size) (Nat.le_trans hsz hb1.size) hbx
   have HBW:=Lib.hid hbw
   obtain ⟨ae0,ne0,ce0,rfl,-⟩:=Ze.1 hs
   obtain ⟨af0,nf0,cf0,rfl,-⟩:=Ze.1 hs'
   rw [Jr] at hrr hrr'
   rw [Nat.mul_one] at hrr hrr'
   have c0:=hrr 0 _ rfl
   have d0:=hrr' 0 _ rfl
   simp only [Nat.add_zero] at c0 d0
   try dsimp only at c0 d0 HC
   clear hr hr' hrr hrr' hs hs' hsw hsw' hx hbw hbx
   go_upto_region 6 with fail
   have k0:=cell_regrown c0
   have l0:=cell_regrown d0
   have cC:=fun d os=>Calls.regrown_of (w:=wr) (d:=d) (os:=os) (HC.out _ ((below_regrown wr d os).mono hsz))
   have CC:=Lib.hid cC
   clear c0 d0 cC
   refine wp_region_quiet_below (by kernel_rfl) (by kernel_rfl) ?_
   repeat (go_big_quiet_step (with_reducible first | exact CC.out _ _))
   refine wpQuiet_nil ?_
   intro _ hw'
   obtain ⟨⟨dq,osq⟩,hw''⟩:=hw'
   subst hw''
   have hwq:=below_regrown wr dq osq
   generalize grow (redrawn wr dq) osq=w1 at hwq |-
   have HW:=Lib.hid hwq
   clear hwq k0 l0
   go_wp2_with fail
   go_round
   case rel=>exact ⟨k+1,by omega,by go_num,HBW.out.trans (HW.out.mono hsz)⟩
   case measure=>simp [intOf];omega
  ·obtain rfl:k=n:=by omega
   have HBW:=Lib.hid hbw
   clear hbw
   go_wp2_with fail
   go_ret
   exact ⟨rfl,HBW.out⟩
abbrev Qhe:=List Int × List Int
def Qss:Shape Qhe:= .struct (.cons (Shape.list Shape.int) (.last (Shape.list Shape.int)))
abbrev Qe7:=List dOp
def Qa3:Shape Qe7:= .struct (.last (Shape.list shOp))
theorem Ji {I:Nat->Prop} {w:World} {cs:List Value} {d:Qe7}:Qa3.reads I w cs d ↔ ∃ a0 n0 c0,cs=[.slice a0 n0 c0]/\(n0<=c0/\c0<=9223372036854775807/\Qb shOp I w a0 n0 d):=by
 constructor
 ·rintro ⟨a0,n0,c0,rfl,g0⟩
  exact ⟨a0,n0,c0,rfl,g0⟩
 ·rintro ⟨a0,n0,c0,rfl,g0⟩
  exact ⟨a0,n0,c0,rfl,g0⟩
theorem Qei (d:Qe7):Qa3.bulk d=(Shape.list shOp).bulk d:=by
 rfl
abbrev Qat:=List dRow × Int × Bool
def Je:Shape Qat:= .struct (.cons (Shape.list Qi) (.cons Shape.int (.last Shape.bool)))
theorem Q6 {I:Nat->Prop} {w:World} {cs:List Value} {d:Qat}:Je.reads I w cs d ↔ ∃ a0 n0 c0,cs=[.slice a0 n0 c0,.int .i64 d.2.1,.bool d.2.2]/\(n0<=c0/\c0<=9223372036854775807/\Qb Qi I w a0 n0 d.1):=by
 constructor
 ·rintro ⟨_,_,rfl,⟨a0,n0,c0,rfl,g0⟩,_,_,rfl,rfl,rfl⟩
  exact ⟨a0,n0,c0,rfl,g0⟩
 ·rintro ⟨a0,n0,c0,rfl,g0⟩
  exact ⟨_,_,rfl,⟨a0,n0,c0,rfl,g0⟩,_,_,rfl,rfl,rfl⟩
theorem Zh (d:Qat):Je.bulk d=(Shape.list Qi).bulk d.1:=by
 simp only [Je,Shape.struct,FieldsOf.cons,FieldsOf.last,Shape.int,Shape.bool]
 try omega
theorem Qni (w:World) (B:Nat) (es:List Value) (x:Qat) (L:Int) (h:Je.reads (Qf B) w es x) (hB:B<=w.heap.size) (h0:0<=L) (h1:L<=1048576) :
  Calls Tryz.prog 72 #[.agg es.toArray,.int .i64 L] w fun e w'=>e = .returned (.int .i64 (szN (Je.bulk x) L))/\Below w.heap.size w w':=by
 obtain ⟨a0,n0,c0,rfl,⟨p0,r0,l0⟩⟩:=Q6.1 h
 rw [Zh]
 have ha:=(Below.refl w.heap.size w).alloc (Nat.le_refl _) (.cells #[.slice a0 n0 c0,.int .i64 x.2.1,.bool x.2.2] 54 (0,0))
 have hb0:=heap_alloc_new w (.cells #[.slice a0 n0 c0,.int .i64 x.2.1,.bool x.2.2] 54 (0,0))
 have hs0:w.heap.size<(w.alloc (.cells #[.slice a0 n0 c0,.int .i64 x.2.1,.bool x.2.2] 54 (0,0))).heap.size:=by simp
 have H0:=fun (w1:World) (hb:Below w.heap.size w w1) (V:Int) (g0:0<=V) (g1:V<=1048576)=>Qhb w1 B a0 n0 c0 _ V (l0.below hb hB) (Nat.le_trans hB hb.size) (by omega) g0 g1
 obtain ⟨u0,hu0⟩ : ∃ u,(Shape.list Qi).bulk x.1=u:=⟨_,rfl⟩
 simp only [hu0] at H0 |-
 replace H0:=Lib.hid H0
 have HA:=Lib.hid ha
 have HB0:=Lib.hid hb0
 have HS0:=Lib.hid hs0
 clear ha hb0 hs0 h hu0
 clear p0 r0 l0
 obtain ⟨d,hd⟩ : ∃ d,d=szN (u0) L:=⟨_,rfl⟩
 rw [<- hd]
 replace HD:=Lib.hid hd
 clear hd
 by_cases f0:(u0:Int)<=L
 ·have q0:=H0.out _ HA.out L (by omega) (by omega)
  rw [Zm f0] at q0
  obtain ⟨V0,hV0⟩ : ∃ V',L-(u0:Int)=V':=⟨_,rfl⟩
  rw [hV0] at q0
  have t0:decide (V0<0)=false:=decide_eq_false (by omega)
  have hdd:V0=d:=by rw [HD.out,Zm (by omega)];omega
  subst hdd
  replace q0:=Lib.hid q0
  go_enter Tryz.func72,Tryz.ntmps72
  go_wp2_with fail
  refine q0.out.mono ?_
  rintro e w1 ⟨rfl,hb0⟩
  have B0:=Lib.hid (HA.out.trans (hb0.mono HA.out.size))
  clear hb0
  go_wp2_with fail
  go_ret
  exact ⟨rfl,B0.out⟩
 ·have q0:=H0.out _ HA.out L (by omega) (by omega)
  rw [Zg f0] at q0
  have hdd:d = -1:=by rw [HD.out];exact Zg (by omega)
  subst hdd
  replace q0:=Lib.hid q0
  go_enter Tryz.func72,Tryz.ntmps72
  go_wp2_with fail
  refine q0.out.mono ?_
  rintro e w1 ⟨rfl,hb0⟩
  have B0:=Lib.hid (HA.out.trans (hb0.mono HA.out.size))
  clear hb0
  go_wp2_with fail
  go_ret
  exact ⟨rfl,B0.out⟩
theorem Qnj (w:World) (B:Nat) (es:List Value) (x:Qat) (h:Je.reads (Qf B) w es x) (hB:B<=w.heap.size) (hb:Je.bulk x<=1048576) :
  Calls Tryz.prog 81 #[.agg es.toArray] w fun e w' => ∃ es',e = .returned (.agg es'.toArray)/\Je.reads (From w.heap.size w'.heap.size) w' es' x/\Below w.heap.size w w':=by
 obtain ⟨a0,n0,c0,rfl,⟨p0,r0,l0⟩⟩:=Q6.1 h
 rw [Zh] at hb
 have m0:n0<=1048576:=by have:=Qh Qi l0;omega
 have H0:=Lib.hid fun (w1:World) (hbw:Below w.heap.size w w1)=>Qhc w1 B a0 n0 c0 _ (l0.below hbw hB) (Nat.le_trans hB hbw.size) (by omega)
 have hbx:=Boxes.start w #[.slice a0 n0 c0,.int .i64 x.2.1,.bool x.2.2] #[.slice none 0 0,.int .i64 0,.bool false] #[.slice none 0 0,.int .i64 0,.bool false] 54 30
 clear h hb l0 r0 p0
 go_enter Tryz.func81,Tryz.ntmps81
 go_wp2_with fail
 generalize ((w.alloc (.cells #[.slice a0 n0 c0,.int .i64 x.2.1,.bool x.2.2] 54 (0,0))).alloc (.cells #[.slice none 0 0,.int .i64 0,.bool false] 30 (0,0))).alloc (.cells #[.slice none 0 0,.int .i64 0,.bool false] 30 (0,0))=v0 at hbx |-
 have BX0:=Lib.hid hbx
 clear hbx
 refine (H0.out v0 BX0.out.below).mono ?_
 rintro e w1 ⟨rfl,hr0,hb0⟩
 have hbx:=BX0.out.call hb0
 have hlt0:=BX0.out.size
 have za0_0:w1.cell? ⟨w.heap.size,0,none⟩=_:=cell_of_row _ _ _ _ _ _ hbx.a
 have za0_1:w1.cell? ⟨w.heap.size,1,none⟩=_:=cell_of_row _ _ _ _ _ _ hbx.a
 have za0_2:w1.cell? ⟨w.heap.size,2,none⟩=_:=cell_of_row _ _ _ _ _ _ hbx.a
 have zo0_0:w1.cell? ⟨w.heap.size+1+1,0,none⟩=_:=cell_of_row _ _ _ _ _ _ hbx.o
 have zo0_1:w1.cell? ⟨w.heap.size+1+1,1,none⟩=_:=cell_of_row _ _ _ _ _ _ hbx.o
 have zo0_2:w1.cell? ⟨w.heap.size+1+1,2,none⟩=_:=cell_of_row _ _ _ _ _ _ hbx.o
 have zr0_0:w1.cell? ⟨w.heap.size+1,0,none⟩=_:=cell_of_row _ _ _ _ _ _ hbx.z
 have zr0_1:w1.cell? ⟨w.heap.size+1,1,none⟩=_:=cell_of_row _ _ _ _ _ _ hbx.z
 have zr0_2:w1.cell? ⟨w.heap.size+1,2,none⟩=_:=cell_of_row _ _ _ _ _ _ hbx.z
 have fo0_0:w1.frozen? ⟨w.heap.size+1+1,0,none⟩=false:=frozen_of_row _ _ _ _ _ hbx.o
 have fr0_0:w1.frozen? ⟨w.heap.size+1,0,none⟩=false:=frozen_of_row _ _ _ _ _ hbx.z
 have fo0_1:w1.frozen? ⟨w.heap.size+1+1,1,none⟩=false:=frozen_of_row _ _ _ _ _ hbx.o
 have fr0_1:w1.frozen? ⟨w.heap.size+1,1,none⟩=false:=frozen_of_row _ _ _ _ _ hbx.z
 have fo0_2:w1.frozen? ⟨w.heap.size+1+1,2,none⟩=false:=frozen_of_row _ _ _ _ _ hbx.o
 have fr0_2:w1.frozen? ⟨w.heap.size+1,2,none⟩=false:=frozen_of_row _ _ _ _ _ hbx.z
 simp only [List.setIfInBounds_toArray,List.set_cons_zero,List.set_cons_succ,List.getElem?_toArray,List.getElem?_cons_zero,List.getElem?_cons_succ] at za0_0 zo0_0 zr0_0 za0_1 zo0_1 zr0_1 za0_2 zo0_2 zr0_2
 have N0_0:=hr0.lo (Nat.le_trans (by omega) hlt0:w.heap.size+3<=v0.heap.size)
 have hby:=(((hbx.store 0 (.slice (some ⟨v0.heap.size,0,none⟩) n0 n0)).store 1 (.int .i64 x.2.1)).store 2 (.bool x.2.2))
 have O0_0:=(((N0_0.stored (w.heap.size+1+1) 0 (.slice (some ⟨v0.heap.size,0,none⟩) n0 n0) (by omega)).stored (w.heap.size+1+1) 1 (.int .i64 x.2.1) (by omega)).stored (w.heap.size+1+1) 2 (.bool x.2.2) (by omega))
 replace hby:=Lib.hid hby
 replace O0_0:=Lib.hid O0_0
 clear N0_0
 clear hr0 hbx hb0
 go_wp2_with fail
 refine bodyPost_ret (results_cell_row rfl _ _ (w.heap.size+1) 30 #[.slice (some ⟨v0.heap.size,0,none⟩) n0 n0,.int .i64 x.2.1,.bool x.2.2] (0,0) _ rfl ?_ Tryz.underlying30 rfl (by kernel_rfl)) rfl ?_
 ·exact hby.out.result [.slice (some ⟨v0.heap.size,0,none⟩) n0 n0,.int .i64 x.2.1,.bool x.2.2] rfl
 refine ⟨[.slice (some ⟨v0.heap.size,0,none⟩) n0 n0,.int .i64 x.2.1,.bool x.2.2],rfl,?_,hby.out.last [.slice (some ⟨v0.heap.size,0,none⟩) n0 n0,.int .i64 x.2.1,.bool x.2.2]⟩
 exact Q6.2 ⟨_,_,_,rfl,⟨Nat.le_refl _,by omega,(O0_0.out.storedAll (w.heap.size+1) 0 [.slice (some ⟨v0.heap.size,0,none⟩) n0 n0,.int .i64 x.2.1,.bool x.2.2] (by omega)).lo (by omega)⟩⟩
theorem Qnk (w:World) (B B':Nat) (es es':List Value) (x:Qat) (h:Je.reads (Qf B) w es x) (h':Je.reads (Qf B') w es' x) (hB:B<=w.heap.size) (hB':B'<=w.heap.size) (hb:Je.bulk x<=1048576) :
  Calls Tryz.prog 86 #[.agg es.toArray,.agg es'.toArray] w fun e w'=>e = .returned (.bool true)/\Below w.heap.size w w':=by
 obtain ⟨a0,n0,c0,rfl,⟨-,-,l0⟩⟩:=Q6.1 h
 obtain ⟨b0,nb0,cb0,rfl,⟨-,-,m0⟩⟩:=Q6.1 h'
 obtain rfl:nb0=n0:=by rw [<- l0.1,<- m0.1]
 rw [Zh] at hb
 have ha:=((Below.refl w.heap.size w).alloc (Nat.le_refl _) (.cells #[.slice a0 nb0 c0,.int .i64 x.2.1,.bool x.2.2] 30 (0,0))).alloc (by simp) (.cells #[.slice b0 nb0 cb0,.int .i64 x.2.1,.bool x.2.2] 30 (0,0))
 have hA:((w.alloc (.cells #[.slice a0 nb0 c0,.int .i64 x.2.1,.bool x.2.2] 30 (0,0))).alloc (.cells #[.slice b0 nb0 cb0,.int .i64 x.2.1,.bool x.2.2] 30 (0,0))).heap[w.heap.size]? = some (.cells #[.slice a0 nb0 c0,.int .i64 x.2.1,.bool x.2.2] 30 (0,0)):=by
  rw [Below.heap_alloc _ _ _ (by simp)]
  exact heap_alloc_new w _
 have hC:((w.alloc (.cells #[.slice a0 nb0 c0,.int .i64 x.2.1,.bool x.2.2] 30 (0,0))).alloc (.cells #[.slice b0 nb0 cb0,.int .i64 x.2.1,.bool x.2.2] 30 (0,0))).heap[w.heap.size+1]? = some (.cells #[.slice b0 nb0 cb0,.int .i64 x.2.1,.bool x.2.2] 30 (0,0)):=by
  have:=heap_alloc_new (w.alloc (.cells #[.slice a0 nb0 c0,.int .i64 x.2.1,.bool x.2.2] 30 (0,0))) (.cells #[.slice b0 nb0 cb0,.int .i64 x.2.1,.bool x.2.2] 30 (0,0))
  simpa using this
 have hS:w.heap.size+1<((w.alloc (.cells #[.slice a0 nb0 c0,.int .i64 x.2.1,.bool x.2.2] 30 (0,0))).alloc (.cells #[.slice b0 nb0 cb0,.int .i64 x.2.1,.bool x.2.2] 30 (0,0))).heap.size:=by simp
 have H0:=Lib.hid fun (w1:World) (hbw:Below w.heap.size w w1)=>Qhd w1 B B' a0 b0 nb0 c0 cb0 _ (l0.below hbw hB) (m0.below hbw hB') (Nat.le_trans hB hbw.size) (Nat.le_trans hB' hbw.size) (by omega)
 have HA:=Lib.hid ha
 have XA:=Lib.hid hA
 have XC:=Lib.hid hC
 have HS:=Lib.hid hS
 clear h h' hb ha hA hC hS l0 m0
 go_enter Tryz.func86,Tryz.ntmps86
 go_wp2_with fail
 refine (H0.out _ HA.out).mono ?_
 rintro e w1 ⟨rfl,hb0⟩
 have B0:=Lib.hid (HA.out.trans (hb0.mono HA.out.size))
 have XA0:=Lib.hid ((hb0.block w.heap.size (by have:=HS.out;omega)).trans XA.out)
 have XC0:=Lib.hid ((hb0.block (w.heap.size+1) HS.out).trans XC.out)
 have HS0:=Lib.hid (Nat.lt_of_lt_of_le HS.out hb0.size)
 have za0_0:w1.cell? ⟨w.heap.size,0,none⟩=_:=cell_of_row _ _ _ _ _ _ XA0.out
 have zc0_0:w1.cell? ⟨w.heap.size+1,0,none⟩=_:=cell_of_row _ _ _ _ _ _ XC0.out
 have za0_1:w1.cell? ⟨w.heap.size,1,none⟩=_:=cell_of_row _ _ _ _ _ _ XA0.out
 have zc0_1:w1.cell? ⟨w.heap.size+1,1,none⟩=_:=cell_of_row _ _ _ _ _ _ XC0.out
 have za0_2:w1.cell? ⟨w.heap.size,2,none⟩=_:=cell_of_row _ _ _ _ _ _ XA0.out
 have zc0_2:w1.cell? ⟨w.heap.size+1,2,none⟩=_:=cell_of_row _ _ _ _ _ _ XC0.out
 simp only [List.getElem?_toArray,List.getElem?_cons_zero,List.getElem?_cons_succ] at za0_0 zc0_0 za0_1 zc0_1 za0_2 zc0_2
 clear hb0
 go_wp2_with fail
 go_ret
 exact ⟨rfl,B0.out⟩
end Go.Proofs.YtcooobnaocbdjaaGreatDoor
