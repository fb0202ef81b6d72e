import Derived.Test.YtcooobnaocbdjaaGreatDoorJoin10
import Derived.Test.YtcooobnaocbdjaaGreatDoorJoin12
set_option maxRecDepth 100000
set_option maxHeartbeats 6400000
set_option linter.unusedVariables false
namespace Go.Proofs.YtcooobnaocbdjaaGreatDoor
open Go.RowKit Go.Sort
def Qck (m:List dOp):Bool:=(List.range m.length).all (okAt m)
theorem Qi4 {m:List dOp} {k:Nat} (hk:k<m.length) (h:okAt m k=false):Qck m=false:=Qbs hk h
theorem Qmg {m:List dOp} (h : ∀ j,j<m.length->okAt m j=true):Qck m=true:=Qcd h
theorem Qc7 (m:List dOp):Qt m=(Qck m && inB 1 8 (m.length:Int)):=rfl
def Qcx (m:List dOp):List dOp:=if Qt m then m else []
theorem Qao {m:List dOp} (h:Qt m=true):Qcx m=m:=by unfold Qcx;rw [if_pos h]
theorem Qct {m:List dOp} (h:Qt m=false):Qcx m=[]:=by unfold Qcx;rw [if_neg (by rw [h];decide)]
theorem Qla (m:List dOp):(Qcx m).length<=8/\(Shape.list shOp).bulk (Qcx m)<=(Shape.list shOp).bulk m:=by
 cases h:Qt m with
 | true=>rw [Qao h];exact ⟨(Z4 h).2.2,Nat.le_refl _⟩
 | false=>rw [Qct h];exact ⟨Nat.zero_le _,Nat.zero_le _⟩
theorem Qn4 {m:List dOp} (h:8<m.length):Qcx m=[]:=Qct (by
 unfold Qt
 rw [Qcz (by omega),Bool.and_false])
theorem Qn5 {m:List dOp} (h:Qck m=false):Qcx m=[]:=Qct (by rw [Qc7,h];rfl)
theorem Qmh {m:List dOp} (h:Qck m=true) (h8:m.length<=8):Qcx m=m:=by
 by_cases h0:m=[]
 ·subst h0;rfl
 ·refine Qao ?_
  rw [Qc7,h,Qbh (by have:=List.length_pos_iff.2 h0;omega) (by omega)]
  rfl
theorem Qi5 (w:World) (a:Option Addr) (n c:Nat) (m:List dOp) (h:Qb shOp (Qf w.heap.size) w a n m) (hb:(Shape.list shOp).bulk m<=1048576) :
  Calls Tryz.prog 232 #[.slice a n c] w fun e w'=>e = .returned (.bool (Qck m))/\Below w.heap.size w w':=by
 have hbk:=Qh shOp h
 rw [hbk] at hb
 have hn1:n<=1048576:=by omega
 have HL:=Lib.hid h
 have HB:=Lib.hid hb
 obtain ⟨d,hd⟩ : ∃ d,d=Qck m:=⟨_,rfl⟩
 rw [<- hd]
 have HD:=Lib.hid hd
 clear h hb hbk hd
 go_enter Tryz.func232,Tryz.ntmps232
 go_wp2_with fail
 go_loopw [7] (fun i wr => ∃ k:Nat,k<=n/\i = .int .i64 k/\Hid (∀ j,j<k->okAt m j=true)/\Below w.heap.size w wr) (fun i _=>n-(intOf i).toNat)
 case atStart=>exact ⟨0,Nat.zero_le _,rfl,Lib.hid fun j hj=>absurd hj (Nat.not_lt_zero _),Below.refl _ _⟩
 case round =>
  obtain ⟨k,hk,rfl,hall,hbw⟩:=hrel
  have hsz:=hbw.size
  by_cases hlt:k<n
  ·obtain ⟨x,hx⟩ : ∃ x,m[k]? = some x:=⟨_,List.getElem?_eq_getElem (by rw [HL.out.1];exact hlt)⟩
   obtain ⟨b,o,es,rfl,hbB,hr,hs⟩:=HL.out.2 k x hx
   have hrr:=Qr hr (show b<w.heap.size from hbB) (Kept.of_below (I:=Qf w.heap.size) hbw fun b hb=>hb)
   have hsw:=shOp.below hs hbw (Nat.le_refl _)
   have hbx':shOp.bulk x<=1048576:=by have h1:=Qz shOp.bulk m k x hx;have h2:=HB.out;omega
   rw [Z6,Ql] at hbx'
   obtain ⟨ae,ne,ce,rfl,ge,le,me⟩:=Q3.1 hsw
   have hal:=(Below.refl wr.heap.size wr).alloc (Nat.le_refl _) (.cells #[.int .i64 x.1,.int .i64 x.2.1,.int .i64 x.2.2.1,.slice ae ne ce] 38 (0,0))
   have hbk:=heap_alloc_new wr (.cells #[.int .i64 x.1,.int .i64 x.2.1,.int .i64 x.2.2.1,.slice ae ne ce] 38 (0,0))
   have HA:=Lib.hid hal
   have HBK:=Lib.hid hbk
   have HWA:=Lib.hid (hbw.trans (hal.mono hsz))
   have HC:=Lib.hid fun (w1:World) (hb1:Below (wr.alloc (.cells #[.int .i64 x.1,.int .i64 x.2.1,.int .i64 x.2.2.1,.slice ae ne ce] 38 (0,0))).heap.size (wr.alloc (.cells #[.int .i64 x.1,.int .i64 x.2.1,.int .i64 x.2.2.1,.slice ae ne ce] 38 (0,0))) w1) =>
    J0 w1 x.1 x.2.1 x.2.2.1 ae ne ce x.2.2.2 (((me.below ((hal.mono hsz).trans (hb1.mono (Nat.le_trans hsz hal.size))) (Nat.le_refl _)).ints (by rw [<- me.1];exact hbx')).le (Nat.le_trans hsz (Nat.le_trans hal.size hb1.size))) ge le
   rw [Zd] at hrr
   have c0:=hrr 0 _ rfl
   have c1:=hrr 1 _ rfl
   have c2:=hrr 2 _ rfl
   have c3:=hrr 3 _ rfl
   simp only [Nat.add_zero] at c0
   obtain ⟨p,hp⟩ : ∃ p,Jz x.1 x.2.1 x.2.2.1 x.2.2.2=p:=⟨_,rfl⟩
   simp only [hp] at HC
   have HX:=Lib.hid hx
   have HP:Hid (Ql3 x=p):=Lib.hid hp
   have HBW:=Lib.hid hbw
   clear hr hrr hs hsw me hx hp hbw hbx' hal hbk
   cases p
   ·have hdf:d=false:=by rw [HD.out];exact Qi4 (by rw [HL.out.1];exact hlt) (Qk2 HX.out HP.out)
    subst hdf
    go_upto_region 4 with fail
    clear c0 c1 c2 c3
    generalize wr.alloc (.cells #[.int .i64 x.1,.int .i64 x.2.1,.int .i64 x.2.2.1,.slice ae ne ce] 38 (0,0))=wa at HA HBK HWA HC |-
    have z0:=cell_of_row _ wr.heap.size 0 _ _ _ HBK.out
    have z1:=cell_of_row _ wr.heap.size 1 _ _ _ HBK.out
    have z2:=cell_of_row _ wr.heap.size 2 _ _ _ HBK.out
    have z3:=cell_of_row _ wr.heap.size 3 _ _ _ HBK.out
    simp only [List.getElem?_toArray,List.getElem?_cons_zero,List.getElem?_cons_succ] at z0 z1 z2 z3
    have kk0:=cell_regrown z0
    have kk1:=cell_regrown z1
    have kk2:=cell_regrown z2
    have kk3:=cell_regrown z3
    have cC0:=fun d os=>Calls.regrown_of (w:=wa) (d:=d) (os:=os) (HC.out _ (below_regrown wa d os))
    have CC0:=Lib.hid cC0
    clear z0 z1 z2 z3 cC0
    refine wp_region_quiet_below (by kernel_rfl) (by kernel_rfl) ?_
    repeat (go_big_quiet_step (with_reducible first | exact CC0.out _ _))
    refine wpQuiet_nil ?_
    intro _ hw'
    obtain ⟨⟨dq,osq⟩,hw''⟩:=hw'
    subst hw''
    have hwq:=below_regrown wa dq osq
    generalize grow (redrawn wa dq) osq=w1 at hwq |-
    have HW:=Lib.hid hwq
    clear hwq kk0 kk1 kk2 kk3
    go_wp2_with fail
    go_ret
    exact ⟨rfl,HWA.out.trans (HW.out.mono HWA.out.size)⟩
   ·by_cases k0:k=0
    ·have hgt:decide ((k:Int)>0)=false:=decide_eq_false (by omega)
     have h0k : ¬ 0<k:=by omega
     have HOK:=Lib.hid (Qio (k0 ▸ HX.out) HP.out)
     have HK0:=Lib.hid k0
     clear k0
     go_upto_region 4 with fail
     clear c0 c1 c2 c3
     generalize wr.alloc (.cells #[.int .i64 x.1,.int .i64 x.2.1,.int .i64 x.2.2.1,.slice ae ne ce] 38 (0,0))=wa at HA HBK HWA HC |-
     have z0:=cell_of_row _ wr.heap.size 0 _ _ _ HBK.out
     have z1:=cell_of_row _ wr.heap.size 1 _ _ _ HBK.out
     have z2:=cell_of_row _ wr.heap.size 2 _ _ _ HBK.out
     have z3:=cell_of_row _ wr.heap.size 3 _ _ _ HBK.out
     simp only [List.getElem?_toArray,List.getElem?_cons_zero,List.getElem?_cons_succ] at z0 z1 z2 z3
     have kk0:=cell_regrown z0
     have kk1:=cell_regrown z1
     have kk2:=cell_regrown z2
     have kk3:=cell_regrown z3
     have cC0:=fun d os=>Calls.regrown_of (w:=wa) (d:=d) (os:=os) (HC.out _ (below_regrown wa d os))
     have CC0:=Lib.hid cC0
     clear z0 z1 z2 z3 cC0
     refine wp_region_quiet_below (by kernel_rfl) (by kernel_rfl) ?_
     repeat (go_big_quiet_step (with_reducible first | exact CC0.out _ _))
     refine wpQuiet_nil ?_
     intro _ hw'
     obtain ⟨⟨dq,osq⟩,hw''⟩:=hw'
     subst hw''
     have hwq:=below_regrown wa dq osq
     generalize grow (redrawn wa dq) osq=w1 at hwq |-
     have HW:=Lib.hid hwq
     clear hwq kk0 kk1 kk2 kk3
     go_wp2_with fail
     go_round
     case rel =>
      refine ⟨k+1,by omega,by go_num,Lib.hid fun j hj => ?_,HWA.out.trans (HW.out.mono HWA.out.size)⟩
      have hk0:=HK0.out
      obtain rfl:j=0:=by omega
      exact hk0 ▸ HOK.out
     case measure=>simp [intOf];omega
    ·obtain ⟨j,hj⟩ : ∃ j,k=j+1:=⟨k-1,by omega⟩
     have hgt:decide ((k:Int)>0)=true:=decide_eq_true (by omega)
     have h0k:0<k:=by omega
     have hw1:wrap64 ((k:Int)-1)=(j:Int):=by rw [IntWalk.wrap64_in _ (by omega)];omega
     have hw2:IntKind.i64.wrap ((k:Int)-1)=(j:Int):=by rw [IntKind.wrap_i64];omega
     have hjn:j<n:=by omega
     obtain ⟨y,hy⟩ : ∃ y,m[j]? = some y:=⟨_,List.getElem?_eq_getElem (by rw [HL.out.1];exact hjn)⟩
     obtain ⟨b',o',es',eb,hbB',hr',hs'⟩:=HL.out.2 j y hy
     cases eb
     have hrr':=Qr hr' (show b<w.heap.size from hbB') (Kept.of_below (I:=Qf w.heap.size) HWA.out fun b hb=>hb)
     obtain ⟨af,nf,cf,rfl,-⟩:=Q3.1 hs'
     rw [Zd] at hrr'
     have e2:=hrr' 2 _ rfl
     have HOK:=Lib.hid (Qip HX.out hy hj HP.out)
     clear hr' hrr' hs' hy hbB'
     have HJ:=Lib.hid hj
     clear hj k0
     by_cases hxy:x.2.1=y.2.2.1
     ·have hne:(x.2.1 != y.2.2.1)=false:=by simp [hxy]
      replace HOK:=Lib.hid (HOK.out.trans (decide_eq_true hxy))
      clear hxy
      go_upto_region 4 with fail
      clear c0 c1 c2 c3
      generalize wr.alloc (.cells #[.int .i64 x.1,.int .i64 x.2.1,.int .i64 x.2.2.1,.slice ae ne ce] 38 (0,0))=wa at HA HBK HWA HC e2 |-
      have z0:=cell_of_row _ wr.heap.size 0 _ _ _ HBK.out
      have z1:=cell_of_row _ wr.heap.size 1 _ _ _ HBK.out
      have z2:=cell_of_row _ wr.heap.size 2 _ _ _ HBK.out
      have z3:=cell_of_row _ wr.heap.size 3 _ _ _ HBK.out
      simp only [List.getElem?_toArray,List.getElem?_cons_zero,List.getElem?_cons_succ] at z0 z1 z2 z3
      have kk0:=cell_regrown z0
      have kk1:=cell_regrown z1
      have kk2:=cell_regrown z2
      have kk3:=cell_regrown z3
      have kk4:=cell_regrown e2
      have cC0:=fun d os=>Calls.regrown_of (w:=wa) (d:=d) (os:=os) (HC.out _ (below_regrown wa d os))
      have CC0:=Lib.hid cC0
      clear z0 z1 z2 z3 e2 cC0
      refine wp_region_quiet_below (by kernel_rfl) (by kernel_rfl) ?_
      repeat (go_big_quiet_step (with_reducible first | exact CC0.out _ _))
      refine wpQuiet_nil ?_
      intro _ hw'
      obtain ⟨⟨dq,osq⟩,hw''⟩:=hw'
      subst hw''
      have hwq:=below_regrown wa dq osq
      generalize grow (redrawn wa dq) osq=w1 at hwq |-
      have HW:=Lib.hid hwq
      clear hwq kk0 kk1 kk2 kk3 kk4
      go_wp2_with fail
      go_round
      case rel =>
       refine ⟨k+1,by omega,by go_num,Lib.hid fun i hi => ?_,HWA.out.trans (HW.out.mono HWA.out.size)⟩
       by_cases e:i=k
       ·subst e;exact HOK.out
       ·exact hall.out i (by omega)
      case measure=>simp [intOf];omega
     ·have hne:(x.2.1 != y.2.2.1)=true:=by simpa using hxy
      have hdf:d=false:=by rw [HD.out];exact Qi4 (by rw [HL.out.1];exact hlt) (HOK.out.trans (decide_eq_false hxy))
      subst hdf
      clear hxy
      go_upto_region 4 with fail
      clear c0 c1 c2 c3
      generalize wr.alloc (.cells #[.int .i64 x.1,.int .i64 x.2.1,.int .i64 x.2.2.1,.slice ae ne ce] 38 (0,0))=wa at HA HBK HWA HC e2 |-
      have z0:=cell_of_row _ wr.heap.size 0 _ _ _ HBK.out
      have z1:=cell_of_row _ wr.heap.size 1 _ _ _ HBK.out
      have z2:=cell_of_row _ wr.heap.size 2 _ _ _ HBK.out
      have z3:=cell_of_row _ wr.heap.size 3 _ _ _ HBK.out
      simp only [List.getElem?_toArray,List.getElem?_cons_zero,List.getElem?_cons_succ] at z0 z1 z2 z3
      have kk0:=cell_regrown z0
      have kk1:=cell_regrown z1
      have kk2:=cell_regrown z2
      have kk3:=cell_regrown z3
      have kk4:=cell_regrown e2
      have cC0:=fun d os=>Calls.regrown_of (w:=wa) (d:=d) (os:=os) (HC.out _ (below_regrown wa d os))
      have CC0:=Lib.hid cC0
      clear z0 z1 z2 z3 e2 cC0
      refine wp_region_quiet_below (by kernel_rfl) (by kernel_rfl) ?_
      repeat (go_big_quiet_step (with_reducible first | exact CC0.out _ _))
      refine wpQuiet_nil ?_
      intro _ hw'
      obtain ⟨⟨dq,osq⟩,hw''⟩:=hw'
      subst hw''
      have hwq:=below_regrown wa dq osq
      generalize grow (redrawn wa dq) osq=w1 at hwq |-
      have HW:=Lib.hid hwq
      clear hwq kk0 kk1 kk2 kk3 kk4
      go_wp2_with fail
      go_ret
      exact ⟨rfl,HWA.out.trans (HW.out.mono HWA.out.size)⟩
  ·obtain rfl:k=n:=by omega
   have hdt:d=true:=by
    rw [HD.out]
    exact Qmg fun j hj=>hall.out j (by rw [<- HL.out.1];exact hj)
   subst hdt
   have HWW:=Lib.hid hbw
   clear hbw
   go_wp2_with fail
   go_ret
   exact ⟨rfl,HWW.out⟩
theorem Qqg {α:Type} {S:Shape α} (I:Nat->Prop) (w:World):Qb S I w none 0 []:=⟨rfl,fun j x hx=>by simp at hx⟩
theorem Qpr (w:World) (o:Obj):(w.alloc o).heap.size=w.heap.size+1:=by simp
def Qr6 (w:World) (m:List dOp) (e:Ending) (w':World):Prop:= ∃ (a:Option Addr) (n c:Nat),e = .returned (.agg #[.slice a n c])/\Qb shOp (Qf w.heap.size) w a n (Qcx m)/\n<=c/\c<=9223372036854775807/\Below w.heap.size w w'
theorem Qb5 (w:World) (a:Option Addr) (n c:Nat) (m:List dOp) (h:Qb shOp (Qf w.heap.size) w a n m) (hc1:n<=c) (hc2:c<=9223372036854775807) (hb:(Shape.list shOp).bulk m<=1048576) :
  Calls Tryz.prog 147 #[.agg #[.slice a n c]] w fun e w'=>Qr6 w m e w':=by
 have hal:Below w.heap.size w ((w.alloc (.cells #[.slice a n c] 92 (0,0))).alloc (.cells #[.slice none 0 0] 197 (0,0))):=((Below.refl _ _).alloc (Nat.le_refl _) _).alloc (by simp) _
 have hs0:w.heap.size+1<((w.alloc (.cells #[.slice a n c] 92 (0,0))).alloc (.cells #[.slice none 0 0] 197 (0,0))).heap.size:=by simp
 have HLI:=Lib.hid (Qi5 _ a n c m ((h.below hal (Nat.le_refl _)).le hal.size) hb)
 have HL:=Lib.hid h
 have hlen:=h.1
 have HA:=Lib.hid hal
 clear h hb hal
 by_cases h8:8<n
 ·have hg:decide ((n:Int)>8)=true:=decide_eq_true (by omega)
  have HE:=Lib.hid (Qn4 (by rw [hlen];exact h8))
  go_enter Tryz.func147,Tryz.ntmps147
  go_wp2_with fail
  refine bodyPost_ret (results_cell_row rfl _ _ (w.heap.size+1) 197 #[.slice none 0 0] (0,0) _ rfl ?_ Tryz.underlying197 rfl (by kernel_rfl)) rfl ?_
  ·have:=heap_alloc_new (w.alloc (.cells #[.slice a n c] 92 (0,0))) (.cells #[.slice none 0 0] 197 (0,0))
   simpa using this
  exact ⟨none,0,0,rfl,by rw [HE.out];exact Qqg _ _,Nat.le_refl _,by omega,HA.out⟩
 ·have hg:decide ((n:Int)>8)=false:=decide_eq_false (by omega)
  have hz:=heap_alloc_new (w.alloc (.cells #[.slice a n c] 92 (0,0))) (.cells #[.slice none 0 0] 197 (0,0))
  rw [Qpr] at hz
  cases hp:Qck m with
  | false =>
   rw [hp] at HLI
   have HE:=Lib.hid (Qn5 hp)
   clear hp
   go_enter Tryz.func147,Tryz.ntmps147
   go_wp2_with fail
   refine HLI.out.mono ?_
   rintro e w1 ⟨rfl,hb⟩
   have HZ:=Lib.hid ((hb.block _ hs0).trans hz)
   have HB:=Lib.hid (HA.out.trans (hb.mono HA.out.size))
   have zb:w1.cell? ⟨w.heap.size+1,0,none⟩=_:=cell_of_row _ _ _ _ _ _ HZ.out
   have fb:w1.frozen? ⟨w.heap.size+1,0,none⟩=false:=frozen_of_row _ _ _ _ _ HZ.out
   simp only [List.getElem?_toArray,List.getElem?_cons_zero] at zb
   clear hb hz
   go_wp2_with fail
   refine bodyPost_ret (results_cell_row rfl _ _ (w.heap.size+1) 197 #[.slice none 0 0] (0,0) _ rfl ?_ Tryz.underlying197 rfl (by kernel_rfl)) rfl ?_
   ·simpa using heap_setCell_same w1 (w.heap.size+1) 0 _ _ (.slice none 0 0) HZ.out
   exact ⟨none,0,0,rfl,by rw [HE.out];exact Qqg _ _,Nat.le_refl _,by omega,HB.out.setCell (p:=⟨w.heap.size+1,0,none⟩) (by show w.heap.size<=w.heap.size+1;omega) _⟩
  | true =>
   rw [hp] at HLI
   have HE:=Lib.hid (Qmh hp (by omega))
   clear hp
   go_enter Tryz.func147,Tryz.ntmps147
   go_wp2_with fail
   refine HLI.out.mono ?_
   rintro e w1 ⟨rfl,hb⟩
   have HZ:=Lib.hid ((hb.block _ hs0).trans hz)
   have HB:=Lib.hid (HA.out.trans (hb.mono HA.out.size))
   have zb:w1.cell? ⟨w.heap.size+1,0,none⟩=_:=cell_of_row _ _ _ _ _ _ HZ.out
   have fb:w1.frozen? ⟨w.heap.size+1,0,none⟩=false:=frozen_of_row _ _ _ _ _ HZ.out
   simp only [List.getElem?_toArray,List.getElem?_cons_zero] at zb
   clear hb hz
   go_wp2_with fail
   refine bodyPost_ret (results_cell_row rfl _ _ (w.heap.size+1) 197 #[.slice a n c] (0,0) _ rfl ?_ Tryz.underlying197 rfl (by kernel_rfl)) rfl ?_
   ·simpa using heap_setCell_same w1 (w.heap.size+1) 0 _ _ (.slice a n c) HZ.out
   exact ⟨a,n,c,rfl,by rw [HE.out];exact HL.out,hc1,hc2,HB.out.setCell (p:=⟨w.heap.size+1,0,none⟩) (by show w.heap.size<=w.heap.size+1;omega) _⟩
def inG (g:List dOp):Int:=if g.length=0 then 0 else (opAt g 0).2.1
def outG (g:List dOp):Int:=if g.length=0 then 0 else (opAt g (g.length-1)).2.2.1
theorem Qps (w:World) (a:Option Addr) (n c:Nat) :
  Calls Tryz.prog 148 #[.agg #[.slice a n c]] w fun e w'=>e = .returned (.bool (decide (0<n)))/\Below w.heap.size w w':=by
 have hal:=(Below.refl w.heap.size w).alloc (Nat.le_refl _) (.cells #[.slice a n c] 197 (0,0))
 have HA:=Lib.hid hal
 clear hal
 go_enter Tryz.func148,Tryz.ntmps148
 go_wp2_with fail
 go_ret
 exact ⟨rfl,HA.out⟩
theorem Qhu (w:World) (a:Option Addr) (n c:Nat) (g:List dOp) (h:Qb shOp (Qf w.heap.size) w a n g) (h8:n<=8) :
  Calls Tryz.prog 153 #[.slice a n c] w fun e w'=>e = .returned (.int .i64 (inG g))/\w=w':=by
 have hlen:=h.1
 unfold inG
 by_cases h0:n=0
 ·have hg:decide ((n:Int)=0)=true:=decide_eq_true (by omega)
  have hg2:((n:Int) == 0)=true:=by simp [h0]
  rw [if_pos (by omega)]
  subst h0
  go_enter Tryz.func153,Tryz.ntmps153
  go_wp2_with fail
  go_ret
  exact ⟨rfl,rfl⟩
 ·have hg2:((n:Int) == 0)=false:=by simp [h0]
  rw [if_neg (by omega)]
  obtain ⟨j,hj⟩ : ∃ j:Nat,j=0:=⟨_,rfl⟩
  obtain ⟨x,hx⟩ : ∃ x,g[j]? = some x:=⟨_,List.getElem?_eq_getElem (by omega)⟩
  have hv:opAt g (0)=x:=Zf (by rw [<- hx];congr 1;omega)
  rw [hv]
  obtain ⟨b,o,es,rfl,hbB,hr,hs⟩:=h.2 j x hx
  obtain ⟨ae,ne,ce,rfl,-⟩:=Q3.1 hs
  rw [Zd] at hr
  have c0:=hr 1 _ rfl
  have hw1:wrap64 ((n:Int)-1)=((n-1:Nat):Int):=by rw [IntWalk.wrap64_in _ (by omega)];omega
  have hpos:0<n:=by omega
  subst hj
  simp only [Nat.zero_mul,Nat.add_zero] at c0
  clear hr hs hbB hv hx h
  go_enter Tryz.func153,Tryz.ntmps153
  go_wp2_with fail
  go_ret
  exact ⟨rfl,rfl⟩
theorem Qi6 (w:World) (a:Option Addr) (n c:Nat) (g:List dOp) (h:Qb shOp (Qf w.heap.size) w a n g) (h8:n<=8) :
  Calls Tryz.prog 154 #[.slice a n c] w fun e w'=>e = .returned (.int .i64 (outG g))/\w=w':=by
 have hlen:=h.1
 unfold outG
 by_cases h0:n=0
 ·have hg:decide ((n:Int)=0)=true:=decide_eq_true (by omega)
  have hg2:((n:Int) == 0)=true:=by simp [h0]
  rw [if_pos (by omega)]
  subst h0
  go_enter Tryz.func154,Tryz.ntmps154
  go_wp2_with fail
  go_ret
  exact ⟨rfl,rfl⟩
 ·have hg2:((n:Int) == 0)=false:=by simp [h0]
  rw [if_neg (by omega)]
  obtain ⟨j,hj⟩ : ∃ j:Nat,j=n-1:=⟨_,rfl⟩
  obtain ⟨x,hx⟩ : ∃ x,g[j]? = some x:=⟨_,List.getElem?_eq_getElem (by omega)⟩
  have hv:opAt g (g.length-1)=x:=Zf (by rw [<- hx];congr 1;omega)
  rw [hv]
  obtain ⟨b,o,es,rfl,hbB,hr,hs⟩:=h.2 j x hx
  obtain ⟨ae,ne,ce,rfl,-⟩:=Q3.1 hs
  rw [Zd] at hr
  have c0:=hr 2 _ rfl
  have hw1:wrap64 ((n:Int)-1)=((n-1:Nat):Int):=by rw [IntWalk.wrap64_in _ (by omega)];omega
  have hpos:0<n:=by omega
  subst hj
  clear hr hs hbB hv hx h
  obtain ⟨q,hq⟩ : ∃ q:Nat,n-1=q:=⟨_,rfl⟩
  have hqn:q<n:=by omega
  have hw2:(n:Int)-1=(q:Int):=by omega
  rw [hq] at c0 hw1
  go_enter Tryz.func154,Tryz.ntmps154
  go_wp2_with fail
  go_ret
  exact ⟨rfl,rfl⟩
theorem Qlb (m:List dOp):inG (Qcx m)=Qca m:=by
 unfold Qca
 cases h:Qt m with
 | true=>rw [Qao h,if_pos rfl];exact if_neg (by have:=(Z4 h).2.1;omega)
 | false=>rw [Qct h];rfl
theorem Qi7 (m:List dOp):outG (Qcx m)=Qa6 m:=by
 unfold Qa6
 cases h:Qt m with
 | true=>rw [Qao h,if_pos rfl];exact if_neg (by have:=(Z4 h).2.1;omega)
 | false=>rw [Qct h];rfl
theorem Qq7 (m:List dOp):decide (0<(Qcx m).length)=Qt m:=by
 cases h:Qt m with
 | true=>rw [Qao h];exact decide_eq_true (Z4 h).2.1
 | false=>rw [Qct h];rfl
theorem Qfk (a:Option Addr) (n c:Nat) (w:World):(Instr.field 197 (.agg #[.slice a n c]) 0).run Tryz.prog w = .ok (.slice a n c) w:=by kernel_rfl
theorem Qg0 (w:World) (es:List Value) (m:Qe7) (h:Qa3.reads (Qf w.heap.size) w es m) (hb:Qa3.bulk m<=1048576) :
  Calls Tryz.prog 141 #[.agg es.toArray] w fun e w'=>e = .returned (.int .i64 (Qca m))/\Below w.heap.size w w':=by
 obtain ⟨a,n,c,rfl,h1,h2,h3⟩:=Ji.1 h
 have hal:Below w.heap.size w (w.alloc (.cells #[.slice a n c] 92 (0,0))):=(Below.refl _ _).alloc (Nat.le_refl _) _
 have HM:=Lib.hid (Qb5 _ a n c m ((h3.below hal (Nat.le_refl _)).le hal.size) h1 h2 hb)
 have hle:=Qla m
 have hbb:(Shape.list shOp).bulk (Qcx m)<=1048576:=Nat.le_trans hle.2 hb
 have HG:=Lib.hid hbb
 have HA:=Lib.hid hal
 have HV:=Lib.hid (Qlb m)
 have h8:=hle.1
 clear h h3 hb hal hle hbb
 go_enter Tryz.func141,Tryz.ntmps141
 go_wp2_with fail
 refine HM.out.mono ?_
 rintro e w1 ⟨a',n',c',rfl,hl,g1,g2,hb⟩
 have hlen:=hl.1
 have HL:=Lib.hid ((hl.below hb (Nat.le_refl _)).le hb.size)
 have HB:=Lib.hid (HA.out.trans (hb.mono HA.out.size))
 clear hl hb
 have hfd : ∀ w:World,(Instr.field 197 (.agg #[.slice a' n' c']) 0).run Tryz.prog w = .ok (.slice a' n' c') w:=fun w=>Qfk a' n' c' w
 go_wp2_with fail
 refine (Qhu _ _ _ _ _ HL.out (by omega)).mono ?_
 rintro e w2 ⟨rfl,rfl⟩
 have HB2:=HB
 go_wp2_with fail
 go_ret
 exact ⟨by rw [<- HV.out] <;> rfl,HB2.out⟩
theorem Qki (w:World) (es:List Value) (m:Qe7) (h:Qa3.reads (Qf w.heap.size) w es m) (hb:Qa3.bulk m<=1048576) :
  Calls Tryz.prog 62 #[.agg es.toArray] w fun e w'=>e = .returned (.int .i64 (Qa6 m))/\Below w.heap.size w w':=by
 obtain ⟨a,n,c,rfl,h1,h2,h3⟩:=Ji.1 h
 have hal:Below w.heap.size w (w.alloc (.cells #[.slice a n c] 92 (0,0))):=(Below.refl _ _).alloc (Nat.le_refl _) _
 have HM:=Lib.hid (Qb5 _ a n c m ((h3.below hal (Nat.le_refl _)).le hal.size) h1 h2 hb)
 have hle:=Qla m
 have hbb:(Shape.list shOp).bulk (Qcx m)<=1048576:=Nat.le_trans hle.2 hb
 have HG:=Lib.hid hbb
 have HA:=Lib.hid hal
 have HV:=Lib.hid (Qi7 m)
 have h8:=hle.1
 clear h h3 hb hal hle hbb
 go_enter Tryz.func62,Tryz.ntmps62
 go_wp2_with fail
 refine HM.out.mono ?_
 rintro e w1 ⟨a',n',c',rfl,hl,g1,g2,hb⟩
 have hlen:=hl.1
 have HL:=Lib.hid ((hl.below hb (Nat.le_refl _)).le hb.size)
 have HB:=Lib.hid (HA.out.trans (hb.mono HA.out.size))
 clear hl hb
 have hfd : ∀ w:World,(Instr.field 197 (.agg #[.slice a' n' c']) 0).run Tryz.prog w = .ok (.slice a' n' c') w:=fun w=>Qfk a' n' c' w
 go_wp2_with fail
 refine (Qi6 _ _ _ _ _ HL.out (by omega)).mono ?_
 rintro e w2 ⟨rfl,rfl⟩
 have HB2:=HB
 go_wp2_with fail
 go_ret
 exact ⟨by rw [<- HV.out] <;> rfl,HB2.out⟩
end Go.Proofs.YtcooobnaocbdjaaGreatDoor
