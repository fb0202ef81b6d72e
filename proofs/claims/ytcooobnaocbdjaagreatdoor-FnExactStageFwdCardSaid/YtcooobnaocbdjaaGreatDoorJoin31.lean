import Derived.Test.YtcooobnaocbdjaaGreatDoorJoin23
import Derived.Test.YtcooobnaocbdjaaGreatDoorJoin27
import Derived.Test.YtcooobnaocbdjaaGreatDoorJoin30
import Derived.Test.YtcooobnaocbdjaaGreatDoorJoin25
import Derived.Deep.RegionHeld3
import Derived.OrdersHeld
/-! YtcooobnaocbdjaaGreatDoorPStgQ -/
section
set_option maxRecDepth 100000
set_option maxHeartbeats 6400000
set_option linter.unusedSimpArgs false
set_option linter.unusedVariables false
namespace Go.Proofs.YtcooobnaocbdjaaGreatDoor
open Go.RowKit Go.Sort
theorem Qia (w:World) (ax:Option Addr) (nx cx:Nat) (x:List Int) (h:IntsIn w.heap.size w ax nx x) :
  Calls Tryz.prog 140 #[.agg #[.slice ax nx cx]] w fun e w' => ∃ ar cr,e = .returned (.agg #[.slice ar nx cr])/\Row w.heap.size w' (.slice ar nx cr) x/\Below w.heap.size w w':=by
 have h2:((w.alloc (.cells #[.slice ax nx cx] 95 (0,0))).alloc (.cells #[.slice none 0 0] 95 (0,0))).heap.size=w.heap.size+2:=by simp
 have hb0:((w.alloc (.cells #[.slice ax nx cx] 95 (0,0))).alloc (.cells #[.slice none 0 0] 95 (0,0))).heap[w.heap.size]? = some (.cells #[.slice ax nx cx] 95 (0,0)):=by
  rw [Below.heap_alloc _ _ _ (by simp)]
  exact heap_alloc_new w _
 have hb1:((w.alloc (.cells #[.slice ax nx cx] 95 (0,0))).alloc (.cells #[.slice none 0 0] 95 (0,0))).heap[w.heap.size+1]? = some (.cells #[.slice none 0 0] 95 (0,0)):=by
  have:=heap_alloc_new (w.alloc (.cells #[.slice ax nx cx] 95 (0,0))) (.cells #[.slice none 0 0] 95 (0,0))
  simpa using this
 have hal:Below w.heap.size w ((w.alloc (.cells #[.slice ax nx cx] 95 (0,0))).alloc (.cells #[.slice none 0 0] 95 (0,0))):=((Below.refl _ _).alloc (Nat.le_refl _) _).alloc (by simp) _
 have HX:=Lib.hid h
 have HB0:=Lib.hid hb0
 have HB1:=Lib.hid hb1
 have HA:=Lib.hid hal
 have HS:=Lib.hid h2
 clear h hb0 hb1 hal h2
 go_enter Tryz.func140,Tryz.ntmps140
 go_upto_region 1 with fail
 generalize (w.alloc (.cells #[.slice ax nx cx] 95 (0,0))).alloc (.cells #[.slice none 0 0] 95 (0,0))=W0 at HB0 HB1 HA HS |-
 have hs:=HS.out
 have z0:=Qa HB0.out 0 _ rfl
 go_wp2_with fail
 refine (Jd W0 ax nx cx x ((HX.out.below HA.out (Nat.le_refl _)).le (by omega))).mono ?_
 rintro e w2 ⟨ar,cr,rfl,hr,hb⟩
 have hk:=(hb.block _ (by omega)).trans HB1.out
 have r0:w2.cell? ⟨w.heap.size+1,0,none⟩=some (.slice none 0 0):=Qa hk 0 _ rfl
 have f0:w2.frozen? ⟨w.heap.size+1,0,none⟩=false:=frozen_of_row _ _ _ _ _ hk
 have hne : ∀ k,(Value.slice ar nx cr).ownBlock=some k->k≠w.heap.size+1:=fun k hk=>by have:=(Row.lt hr k hk).1;omega
 have hrr:Row w.heap.size (w2.setCell ⟨w.heap.size+1,0,none⟩ (.slice ar nx cr)) (.slice ar nx cr) x:=Row.le (Jn hr 0 (.slice ar nx cr) hne) HA.out.size
 have hbb:Below w.heap.size w (w2.setCell ⟨w.heap.size+1,0,none⟩ (.slice ar nx cr)):=(HA.out.trans (hb.mono HA.out.size)).setCell (p:=⟨w.heap.size+1,0,none⟩) (Nat.le_add_right _ _) _
 have HRR:=Lib.hid hrr
 have HBB:=Lib.hid hbb
 have HK:=Lib.hid hk
 clear hr hb hk hne hrr hbb z0
 go_wp2_with fail
 refine bodyPost_ret (results_cell_row rfl _ _ (w.heap.size+1) 95 #[.slice ar nx cr] (0,0) _ rfl ?_ Tryz.underlying95 rfl (by kernel_rfl)) rfl ?_
 ·simpa using heap_setCell_same w2 (w.heap.size+1) 0 _ _ (.slice ar nx cr) HK.out
 exact ⟨ar,cr,rfl,HRR.out,HBB.out⟩
theorem Qmu : ∀ args w,(callFunc 140 args).run Tryz.prog w = .ok (.enter 140 args) w:=enters_of Tryz.func140 (by kernel_rfl) rfl
theorem Qb7 (w:World) (a:Option Addr) (n c:Nat) (l:List dRow) (h:Qb Qi (Qf w.heap.size) w a n l) (hn:n<=1048576) (hb : ∀ (j:Nat) (x:dRow),l[j]? = some x->Qi.bulk x<=1048576) :
  Calls Tryz.prog 139 #[.slice a n c,.func (.func 140) #[] #[]] w fun e w' => ∃ v,e = .returned v/\ListL ownRow 95 w.heap.size w'.heap.size w' v l/\Below w.heap.size w w':=by
 obtain ⟨i0,hi,hz0,hz1,hz2⟩:=info_parts Qby
 have HL:=Lib.hid h
 have HLEN:=Lib.hid h.1
 have HBK:=Lib.hid hb
 have eg:=Qmu
 clear h hb
 go_enter Tryz.func139,Tryz.ntmps139
 go_wp2_with fail
 go_loopw [5,10] (fun v i wr => ∃ k:Nat,k<=n/\i = .int .i64 k/\ListL ownRow 95 w.heap.size wr.heap.size wr v (l.take k)/\Below w.heap.size w wr) (fun _ i _=>n-(intOf i).toNat)
 case atStart=>exact ⟨0,Nat.zero_le _,rfl,ListL.nil _ _ (Nat.le_refl _),Below.refl _ _⟩
 case round =>
  obtain ⟨k,hk,rfl,hl,hb⟩:=hrel
  have hsz:=hb.size
  by_cases hlt:k<n
  ·obtain ⟨b,o,x,ax,nx,cx,hx,rfl,hbB,hc0,-,-,hlx⟩:=Qch HL.out k hlt
   have hbx:=HBK.out k x hx
   rw [Zs,Ql,hlx.1] at hbx
   have hix:=hlx.ints hbx
   have d0:=(hb.cell (p:=⟨b,o+k,none⟩) hbB).trans hc0
   have htk:l.take (k+1)=l.take k ++ [x]:=by rw [List.take_add_one,hx];rfl
   obtain ⟨av,cv,rfl,-,-⟩:=hl.form
   have htl:(l.take k).length=k:=by rw [List.length_take,HLEN.out];omega
   rw [htl] at hl |-
   have hal:=(Below.refl wr.heap.size wr).alloc (Nat.le_refl _) (.cells #[.slice ax nx cx] 95 (0,0))
   have hbk:=heap_alloc_new wr (.cells #[.slice ax nx cx] 95 (0,0))
   have hs1:(wr.alloc (.cells #[.slice ax nx cx] 95 (0,0))).heap.size=wr.heap.size+1:=by simp
   have hwb:=hb.trans (hal.mono hsz)
   have hcp:=Qia (wr.alloc (.cells #[.slice ax nx cx] 95 (0,0))) ax nx cx x ((hix.below hwb (Nat.le_refl _)).le hwb.size)
   have HLK:=Lib.hid (hl.below hal (Nat.le_refl _))
   have HTK:=Lib.hid htk
   have HTL:=Lib.hid htl
   skip
   have HBW:=Lib.hid hwb
   have HAL:=Lib.hid hal
   have HBN:=Lib.hid hbk
   have HS1:=Lib.hid hs1
   have HCP:=Lib.hid hcp
   clear hx hlx hc0 hix  htk htl hl hb hbx hbB hal hbk hs1 hwb hcp
   go_upto_region 5 with fail
   clear d0
   generalize wr.alloc (.cells #[.slice ax nx cx] 95 (0,0))=wb at HLK HBW HAL HBN HS1 HCP |-
   have y0:=Qa HBN.out 0 _ rfl
   go_wp2_with fail
   refine HCP.out.mono ?_
   rintro e w2 ⟨ar,cr,rfl,hr,hb2⟩
   have how:ownRow.owns (Zb wb.heap.size w2.heap.size) w2 [.slice ar nx cr] x:=hr.ownRow
   have HOW:=Lib.hid how
   have HL2:=Lib.hid (HLK.out.below hb2 (by have:=HS1.out;omega))
   have HB2:=Lib.hid hb2
   clear how hr hb2 y0
   go_wp2_with (at_builtin;refine Qw (by rfl) fun K hK => ?_;refine Ju rfl (Zr (ops:=#[]) w2 (S:=ownRow) (T:=95) (Ts:=27) (by rfl) _ _ (by rfl) i0 (.agg #[.slice none 0 0]) 24 Tryz.underlying27 hi hz0 hz1 hz2 rfl (by decide) (by decide) w.heap.size wr.heap.size hsz _ (l.take k) x [.slice ar nx cr] (Zb wb.heap.size w2.heap.size) (by rfl) HL2.out HOW.out (fun b o f=>⟨by have:=f.1;have:=HS1.out;omega,f.2⟩) (Qcw _ _ _) (by rfl) (by rw [HTL.out];omega) ?_);intro av' nv' cv' w4 hl4 hb4 _ _;have HL4:=Lib.hid hl4;have HB4:=Lib.hid (HBW.out.trans ((HB2.out.mono HBW.out.size).trans hb4));clear hl4 hb4;refine hK _ _ ?_;clear hK K)
   go_roundw
   case rel =>
    refine ⟨k+1,by omega,by go_num,?_,HB4.out⟩
    rw [HTK.out]
    exact HL4.out
   case measure=>simp [intOf];omega
  ·obtain rfl:k=n:=by omega
   rw [List.take_of_length_le (Nat.le_of_eq HLEN.out)] at hl
   have HLL:=Lib.hid hl
   have HBW:=Lib.hid hb
   clear hl hb
   go_wp2_with fail
   go_ret
   exact ⟨_,rfl,HLL.out,HBW.out⟩
theorem Qjj (w:World) (K0 K1 K2:Int) (ax:Option Addr) (nx cx:Nat) (x:List Int) (h:IntsIn w.heap.size w ax nx x) :
  Calls Tryz.prog 136 #[.agg #[.int .i64 K0,.int .i64 K1,.int .i64 K2,.slice ax nx cx]] w fun e w' => ∃ ar cr,e = .returned (.agg #[.int .i64 K0,.int .i64 K1,.int .i64 K2,.slice ar nx cr])/\Row w.heap.size w' (.slice ar nx cr) x/\Below w.heap.size w w':=by
 have h2:((w.alloc (.cells #[.int .i64 K0,.int .i64 K1,.int .i64 K2,.slice ax nx cx] 38 (0,0))).alloc (.cells #[.int .i64 0,.int .i64 0,.int .i64 0,.slice none 0 0] 38 (0,0))).heap.size=w.heap.size+2:=by simp
 have hb0:((w.alloc (.cells #[.int .i64 K0,.int .i64 K1,.int .i64 K2,.slice ax nx cx] 38 (0,0))).alloc (.cells #[.int .i64 0,.int .i64 0,.int .i64 0,.slice none 0 0] 38 (0,0))).heap[w.heap.size]? = some (.cells #[.int .i64 K0,.int .i64 K1,.int .i64 K2,.slice ax nx cx] 38 (0,0)):=by
  rw [Below.heap_alloc _ _ _ (by simp)]
  exact heap_alloc_new w _
 have hb1:((w.alloc (.cells #[.int .i64 K0,.int .i64 K1,.int .i64 K2,.slice ax nx cx] 38 (0,0))).alloc (.cells #[.int .i64 0,.int .i64 0,.int .i64 0,.slice none 0 0] 38 (0,0))).heap[w.heap.size+1]? = some (.cells #[.int .i64 0,.int .i64 0,.int .i64 0,.slice none 0 0] 38 (0,0)):=by
  have:=heap_alloc_new (w.alloc (.cells #[.int .i64 K0,.int .i64 K1,.int .i64 K2,.slice ax nx cx] 38 (0,0))) (.cells #[.int .i64 0,.int .i64 0,.int .i64 0,.slice none 0 0] 38 (0,0))
  simpa using this
 have hal:Below w.heap.size w ((w.alloc (.cells #[.int .i64 K0,.int .i64 K1,.int .i64 K2,.slice ax nx cx] 38 (0,0))).alloc (.cells #[.int .i64 0,.int .i64 0,.int .i64 0,.slice none 0 0] 38 (0,0))):=((Below.refl _ _).alloc (Nat.le_refl _) _).alloc (by simp) _
 have HX:=Lib.hid h
 have HB0:=Lib.hid hb0
 have HB1:=Lib.hid hb1
 have HA:=Lib.hid hal
 have HS:=Lib.hid h2
 clear h hb0 hb1 hal h2
 go_enter Tryz.func136,Tryz.ntmps136
 go_upto_region 1 with fail
 generalize (w.alloc (.cells #[.int .i64 K0,.int .i64 K1,.int .i64 K2,.slice ax nx cx] 38 (0,0))).alloc (.cells #[.int .i64 0,.int .i64 0,.int .i64 0,.slice none 0 0] 38 (0,0))=W0 at HB0 HB1 HA HS |-
 have hs:=HS.out
 have z3:=Qa HB0.out 3 _ rfl
 go_wp2_with fail
 refine (Jd W0 ax nx cx x ((HX.out.below HA.out (Nat.le_refl _)).le (by omega))).mono ?_
 rintro e w2 ⟨ar,cr,rfl,hr,hb⟩
 have hk0:=(hb.block _ (by omega)).trans HB0.out
 have hk1:=(hb.block _ (by omega)).trans HB1.out
 have r3:w2.cell? ⟨w.heap.size,3,none⟩=some (.slice ax nx cx):=Qa hk0 3 _ rfl
 have f3:w2.frozen? ⟨w.heap.size,3,none⟩=false:=frozen_of_row _ _ _ _ _ hk0
 have g0:=heap_setCell_same w2 w.heap.size 3 _ _ (.slice ar nx cr) hk0
 have g1:(w2.setCell ⟨w.heap.size,3,none⟩ (.slice ar nx cr)).heap[w.heap.size+1]? = _:=(Below.heap_setCell _ _ _ _ (by show w.heap.size+1≠w.heap.size;omega)).trans hk1
 have hne : ∀ k,(Value.slice ar nx cr).ownBlock=some k->k≠w.heap.size:=fun k hk=>by have:=(Row.lt hr k hk).1;omega
 have hrr:=Jn hr 3 (.slice ar nx cr) hne
 have hbb:Below w.heap.size w (w2.setCell ⟨w.heap.size,3,none⟩ (.slice ar nx cr)):=(HA.out.trans (hb.mono HA.out.size)).setCell (p:=⟨w.heap.size,3,none⟩) (Nat.le_refl _) _
 have HRR:=Lib.hid (show Row W0.heap.size (w2.setCell ⟨w.heap.size,3,none⟩ (.slice ar nx cr)) (.slice ar nx cr) x from hrr)
 have HBB:=Lib.hid hbb
 have HG0:=Lib.hid g0
 have HG1:=Lib.hid g1
 clear hr hb hk0 hk1 hne hrr hbb z3 g0 g1
 go_upto_region 2 with fail
 clear r3 f3
 generalize w2.setCell ⟨w.heap.size,3,none⟩ (.slice ar nx cr)=w3 at HRR HBB HG0 HG1 |-
 have y0:=Qa HG0.out 0 _ rfl
 have y1:=Qa HG0.out 1 _ rfl
 have y2:=Qa HG0.out 2 _ rfl
 have y3:=Qa HG0.out 3 _ rfl
 have q0:=Qa HG1.out 0 _ rfl
 have q1:=Qa HG1.out 1 _ rfl
 have q2:=Qa HG1.out 2 _ rfl
 have q3:=Qa HG1.out 3 _ rfl
 have f0:w3.frozen? ⟨w.heap.size+1,0,none⟩=false:=frozen_of_row _ _ _ _ _ HG1.out
 have f1:w3.frozen? ⟨w.heap.size+1,1,none⟩=false:=frozen_of_row _ _ _ _ _ HG1.out
 have f2:w3.frozen? ⟨w.heap.size+1,2,none⟩=false:=frozen_of_row _ _ _ _ _ HG1.out
 have f3:w3.frozen? ⟨w.heap.size+1,3,none⟩=false:=frozen_of_row _ _ _ _ _ HG1.out
 have hne : ∀ k,(Value.slice ar nx cr).ownBlock=some k->k≠w.heap.size+1:=fun k hk=>by have:=(Row.lt HRR.out k hk).1;omega
 have hrr:Row w.heap.size ((((w3.setCell ⟨w.heap.size+1,0,none⟩ (.int .i64 K0)).setCell ⟨w.heap.size+1,1,none⟩ (.int .i64 K1)).setCell ⟨w.heap.size+1,2,none⟩ (.int .i64 K2)).setCell ⟨w.heap.size+1,3,none⟩ (.slice ar nx cr)) (.slice ar nx cr) x:=Row.le (Jn (Jn (Jn (Jn HRR.out 0 (.int .i64 K0) hne) 1 (.int .i64 K1) hne) 2 (.int .i64 K2) hne) 3 (.slice ar nx cr) hne) HA.out.size
 have hbb:Below w.heap.size w ((((w3.setCell ⟨w.heap.size+1,0,none⟩ (.int .i64 K0)).setCell ⟨w.heap.size+1,1,none⟩ (.int .i64 K1)).setCell ⟨w.heap.size+1,2,none⟩ (.int .i64 K2)).setCell ⟨w.heap.size+1,3,none⟩ (.slice ar nx cr)):=(((HBB.out.setCell (p:=⟨w.heap.size+1,0,none⟩) (Nat.le_add_right _ _) _).setCell (p:=⟨w.heap.size+1,1,none⟩) (Nat.le_add_right _ _) _).setCell (p:=⟨w.heap.size+1,2,none⟩) (Nat.le_add_right _ _) _).setCell (p:=⟨w.heap.size+1,3,none⟩) (Nat.le_add_right _ _) _
 have hk4:=heap_setCell_same _ _ 3 _ _ (.slice ar nx cr) (heap_setCell_same _ _ 2 _ _ (.int .i64 K2) (heap_setCell_same _ _ 1 _ _ (.int .i64 K1) (heap_setCell_same _ _ 0 _ _ (.int .i64 K0) HG1.out)))
 have HR4:=Lib.hid hrr
 have HB4:=Lib.hid hbb
 have HK4:=Lib.hid hk4
 clear hrr hbb hk4 hne
 go_wp2_with fail
 refine bodyPost_ret (results_cell_row rfl _ _ (w.heap.size+1) 38 #[.int .i64 K0,.int .i64 K1,.int .i64 K2,.slice ar nx cr] (0,0) _ rfl ?_ Tryz.underlying38 rfl (by kernel_rfl)) rfl ?_
 ·simpa using HK4.out
 exact ⟨ar,cr,rfl,HR4.out,HB4.out⟩
theorem Qon : ∀ args w,(callFunc 136 args).run Tryz.prog w = .ok (.enter 136 args) w:=enters_of Tryz.func136 (by kernel_rfl) rfl
theorem Qjk (w:World) (a:Option Addr) (n c:Nat) (l:List dOp) (h:Qb shOp (Qf w.heap.size) w a n l) (hn:n<=1048576) (hb : ∀ (j:Nat) (x:dOp),l[j]? = some x->shOp.bulk x<=1048576) :
  Calls Tryz.prog 135 #[.slice a n c,.func (.func 136) #[] #[]] w fun e w' => ∃ v,e = .returned v/\ListL ownOp 38 w.heap.size w'.heap.size w' v l/\Below w.heap.size w w':=by
 obtain ⟨i0,hi,hz0,hz1,hz2⟩:=info_parts Qcn
 have HL:=Lib.hid h
 have HLEN:=Lib.hid h.1
 have HBK:=Lib.hid hb
 have eg:=Qon
 clear h hb
 go_enter Tryz.func135,Tryz.ntmps135
 go_wp2_with fail
 go_loopw [5,10] (fun v i wr => ∃ k:Nat,k<=n/\i = .int .i64 k/\ListL ownOp 38 w.heap.size wr.heap.size wr v (l.take k)/\Below w.heap.size w wr) (fun _ i _=>n-(intOf i).toNat)
 case atStart=>exact ⟨0,Nat.zero_le _,rfl,ListL.nil _ _ (Nat.le_refl _),Below.refl _ _⟩
 case round =>
  obtain ⟨k,hk,rfl,hl,hb⟩:=hrel
  have hsz:=hb.size
  by_cases hlt:k<n
  ·obtain ⟨b,o,x,ax,nx,cx,hx,rfl,hbB,hc0,hc1,hc2,hc3,-,-,hlx⟩:=Qds HL.out k hlt
   have hbx:=HBK.out k x hx
   rw [Z6,Ql,hlx.1] at hbx
   have hix:=hlx.ints hbx
   obtain ⟨K0,hA⟩ : ∃ M,x.1=M:=⟨_,rfl⟩
   obtain ⟨K1,hI⟩ : ∃ M,x.2.1=M:=⟨_,rfl⟩
   obtain ⟨K2,hO⟩ : ∃ M,x.2.2.1=M:=⟨_,rfl⟩
   rw [hA] at hc0
   rw [hI] at hc1
   rw [hO] at hc2
   have hxe:x=(K0,K1,K2,x.2.2.2):=by rw [<- hA,<- hI,<- hO]
   have d0:=(hb.cell (p:=⟨b,o+k*4,none⟩) hbB).trans hc0
   have d1:=(hb.cell (p:=⟨b,o+k*4+1,none⟩) hbB).trans hc1
   have d2:=(hb.cell (p:=⟨b,o+k*4+2,none⟩) hbB).trans hc2
   have d3:=(hb.cell (p:=⟨b,o+k*4+3,none⟩) hbB).trans hc3
   have htk:l.take (k+1)=l.take k ++ [x]:=by rw [List.take_add_one,hx];rfl
   obtain ⟨av,cv,rfl,-,-⟩:=hl.form
   have htl:(l.take k).length=k:=by rw [List.length_take,HLEN.out];omega
   rw [htl] at hl |-
   have hal:=(Below.refl wr.heap.size wr).alloc (Nat.le_refl _) (.cells #[.int .i64 K0,.int .i64 K1,.int .i64 K2,.slice ax nx cx] 38 (0,0))
   have hbk:=heap_alloc_new wr (.cells #[.int .i64 K0,.int .i64 K1,.int .i64 K2,.slice ax nx cx] 38 (0,0))
   have hs1:(wr.alloc (.cells #[.int .i64 K0,.int .i64 K1,.int .i64 K2,.slice ax nx cx] 38 (0,0))).heap.size=wr.heap.size+1:=by simp
   have hwb:=hb.trans (hal.mono hsz)
   have hcp:=Qjj (wr.alloc (.cells #[.int .i64 K0,.int .i64 K1,.int .i64 K2,.slice ax nx cx] 38 (0,0))) K0 K1 K2 ax nx cx x.2.2.2 ((hix.below hwb (Nat.le_refl _)).le hwb.size)
   have HLK:=Lib.hid (hl.below hal (Nat.le_refl _))
   have HTK:=Lib.hid htk
   have HTL:=Lib.hid htl
   have HXE:=Lib.hid hxe
   have HBW:=Lib.hid hwb
   have HAL:=Lib.hid hal
   have HBN:=Lib.hid hbk
   have HS1:=Lib.hid hs1
   have HCP:=Lib.hid hcp
   clear hx hlx hc0 hc1 hc2 hc3 hix hA hI hO hxe htk htl hl hb hbx hbB hal hbk hs1 hwb hcp
   go_upto_region 5 with fail
   clear d0 d1 d2 d3
   generalize wr.alloc (.cells #[.int .i64 K0,.int .i64 K1,.int .i64 K2,.slice ax nx cx] 38 (0,0))=wb at HLK HBW HAL HBN HS1 HCP |-
   have y0:=Qa HBN.out 0 _ rfl
   have y1:=Qa HBN.out 1 _ rfl
   have y2:=Qa HBN.out 2 _ rfl
   have y3:=Qa HBN.out 3 _ rfl
   go_wp2_with fail
   refine HCP.out.mono ?_
   rintro e w2 ⟨ar,cr,rfl,hr,hb2⟩
   have how:ownOp.owns (Zb wb.heap.size w2.heap.size) w2 [.int .i64 K0,.int .i64 K1,.int .i64 K2,.slice ar nx cr] (K0,K1,K2,x.2.2.2):=hr.ownOp K0 K1 K2
   have HOW:=Lib.hid how
   have HL2:=Lib.hid (HLK.out.below hb2 (by have:=HS1.out;omega))
   have HB2:=Lib.hid hb2
   clear how hr hb2 y0 y1 y2 y3
   go_wp2_with (at_builtin;refine Qw (by rfl) fun K hK => ?_;refine Ju rfl (Zr (ops:=#[]) w2 (S:=ownOp) (T:=38) (Ts:=25) (by rfl) _ _ (by rfl) i0 (.agg #[.int .i64 0,.int .i64 0,.int .i64 0,.slice none 0 0]) 48 Tryz.underlying25 hi hz0 hz1 hz2 rfl (by decide) (by decide) w.heap.size wr.heap.size hsz _ (l.take k) (K0,K1,K2,x.2.2.2) [.int .i64 K0,.int .i64 K1,.int .i64 K2,.slice ar nx cr] (Zb wb.heap.size w2.heap.size) (by rfl) HL2.out HOW.out (fun b o f=>⟨by have:=f.1;have:=HS1.out;omega,f.2⟩) Qqj (by rfl) (by rw [HTL.out];omega) ?_);intro av' nv' cv' w4 hl4 hb4 _ _;have HL4:=Lib.hid hl4;have HB4:=Lib.hid (HBW.out.trans ((HB2.out.mono HBW.out.size).trans hb4));clear hl4 hb4;refine hK _ _ ?_;clear hK K)
   go_roundw
   case rel =>
    refine ⟨k+1,by omega,by go_num,?_,HB4.out⟩
    rw [HTK.out,HXE.out]
    exact HL4.out
   case measure=>simp [intOf];omega
  ·obtain rfl:k=n:=by omega
   rw [List.take_of_length_le (Nat.le_of_eq HLEN.out)] at hl
   have HLL:=Lib.hid hl
   have HBW:=Lib.hid hb
   clear hl hb
   go_wp2_with fail
   go_ret
   exact ⟨_,rfl,HLL.out,HBW.out⟩
theorem Qdz {m:Int} {a:Option Addr} {n c:Nat} : ∀ u∈[Value.int .i64 m,.slice a n c],u.oneCell'=true:=by
 intro u hu
 simp only [List.mem_cons,List.not_mem_nil,or_false] at hu
 rcases hu with rfl | rfl <;> rfl
theorem ListL.setFar {α:Type} {S:Owned α} {T:TypeId} {lo hi:Nat} {w:World} {v:Value} {xs:List α} (h:ListL S T lo hi w v xs) (g i:Nat) (u:Value) (hg:g<lo):ListL S T lo hi (w.setCell ⟨g,i,none⟩ u) v xs:=
 h.keepB (fun b h1 h2=>heap_setCell_other _ _ _ _ (by show b≠g;omega)) (by simpa using h.top)
theorem Qfp (w:World) (M:Int) (ax:Option Addr) (nx cx:Nat) (x:List dRow) (h:Qb Qi (Qf w.heap.size) w ax nx x) (hb:(Shape.list Qi).bulk x<=1048576) :
  Calls Tryz.prog 138 #[.agg #[.int .i64 M,.slice ax nx cx]] w fun e w' => ∃ v,e = .returned (.agg #[.int .i64 M,v])/\ListL ownRow 95 w.heap.size w'.heap.size w' v x/\Below w.heap.size w w':=by
 rw [Qh Qi h] at hb
 have hbj : ∀ (j:Nat) (y:dRow),x[j]? = some y->Qi.bulk y<=1048576:=fun j y hy=>by have:=Qz Qi.bulk x j y hy;omega
 have hnx:nx<=1048576:=by omega
 have HBJ:=Lib.hid hbj
 clear hb hbj
 have h2:((w.alloc (.cells #[.int .i64 M,.slice ax nx cx] 46 (0,0))).alloc (.cells #[.int .i64 0,.slice none 0 0] 46 (0,0))).heap.size=w.heap.size+2:=by simp
 have hb0:((w.alloc (.cells #[.int .i64 M,.slice ax nx cx] 46 (0,0))).alloc (.cells #[.int .i64 0,.slice none 0 0] 46 (0,0))).heap[w.heap.size]? = some (.cells #[.int .i64 M,.slice ax nx cx] 46 (0,0)):=by
  rw [Below.heap_alloc _ _ _ (by simp)]
  exact heap_alloc_new w _
 have hb1:((w.alloc (.cells #[.int .i64 M,.slice ax nx cx] 46 (0,0))).alloc (.cells #[.int .i64 0,.slice none 0 0] 46 (0,0))).heap[w.heap.size+1]? = some (.cells #[.int .i64 0,.slice none 0 0] 46 (0,0)):=by
  have:=heap_alloc_new (w.alloc (.cells #[.int .i64 M,.slice ax nx cx] 46 (0,0))) (.cells #[.int .i64 0,.slice none 0 0] 46 (0,0))
  simpa using this
 have hal:Below w.heap.size w ((w.alloc (.cells #[.int .i64 M,.slice ax nx cx] 46 (0,0))).alloc (.cells #[.int .i64 0,.slice none 0 0] 46 (0,0))):=((Below.refl _ _).alloc (Nat.le_refl _) _).alloc (by simp) _
 have HX:=Lib.hid h
 have HB0:=Lib.hid hb0
 have HB1:=Lib.hid hb1
 have HA:=Lib.hid hal
 have HS:=Lib.hid h2
 clear h hb0 hb1 hal h2
 go_enter Tryz.func138,Tryz.ntmps138
 go_upto_region 1 with fail
 generalize (w.alloc (.cells #[.int .i64 M,.slice ax nx cx] 46 (0,0))).alloc (.cells #[.int .i64 0,.slice none 0 0] 46 (0,0))=W0 at HB0 HB1 HA HS |-
 have hs:=HS.out
 have z0:=Qa HB0.out 0 _ rfl
 have z1:=Qa HB0.out 1 _ rfl
 have HC:=Lib.hid fun (wx:World) (hx:Below W0.heap.size W0 wx)=>Qb7 wx ax nx cx x (((HX.out.below HA.out (Nat.le_refl _)).le (by omega)).below hx (Nat.le_refl _) |>.le hx.size) hnx HBJ.out
 have hd:Below W0.heap.size W0 W0.drew:=(Below.refl _ _).drew
 have HD:=Lib.hid hd
 clear hd
 go_region_held3 (fun w'=>w'.cell? ⟨w.heap.size,0,none⟩=some (.int .i64 M)/\w'.cell? ⟨w.heap.size,1,none⟩=some (.slice ax nx cx))
  (first | go_keep | (go_split_ands;refine ⟨?_,?_⟩ <;> with_reducible assumption))
  (first
   | (
     go_simp
     go_at_call 139
     refine (HC.out _ HD.out).mono ?_
     rintro e w2 ⟨v,rfl,hr,hb⟩
     have hb2:Below W0.heap.size W0 w2:=HD.out.trans hb
     have hk0:=(hb2.block _ (by omega)).trans HB0.out
     have hk1:=(hb2.block _ (by omega)).trans HB1.out
     have s0:w2.cell? ⟨w.heap.size,0,none⟩=some (.int .i64 M):=Qa hk0 0 _ rfl
     have s1:w2.cell? ⟨w.heap.size,1,none⟩=some (.slice ax nx cx):=Qa hk0 1 _ rfl
     have r0:=Qa hk1 0 _ rfl
     have r1:=Qa hk1 1 _ rfl
     have f0:w2.frozen? ⟨w.heap.size+1,0,none⟩=false:=frozen_of_row _ _ _ _ _ hk1
     have f1:w2.frozen? ⟨w.heap.size+1,1,none⟩=false:=frozen_of_row _ _ _ _ _ hk1
     obtain ⟨ar,cr,rfl,-,-⟩:=hr.form
     obtain ⟨nr,hnr⟩ : ∃ nr,x.length=nr:=⟨_,rfl⟩
     rw [hnr] at hr |-
     have hs2:=hb2.size
     have HR2:=Lib.hid (show ListL ownRow 95 W0.heap.size w2.heap.size w2 (.slice ar nr cr) x from hr)
     have HB2:=Lib.hid hb2
     have HK1:=Lib.hid hk1
     clear hr hb hb2 hk0 hk1 hnr))
 all_goals
  have e1:=heap_setCell_same _ _ 1 _ _ (.slice ar nr cr) (heap_setCell_same _ _ 0 _ _ (.int .i64 M) HK1.out)
  have hrr:=((HR2.out.setFar (w.heap.size+1) 0 (.int .i64 M) (by omega)).setFar (w.heap.size+1) 1 (.slice ar nr cr) (by omega)).wide (lo':=w.heap.size) (hi':=w2.heap.size) HA.out.size (Nat.le_refl _) (by simp)
  have hbb:Below w.heap.size w ((w2.setCell ⟨w.heap.size+1,0,none⟩ (.int .i64 M)).setCell ⟨w.heap.size+1,1,none⟩ (.slice ar nr cr)):=((HA.out.trans (HB2.out.mono HA.out.size)).setCell (p:=⟨w.heap.size+1,0,none⟩) (Nat.le_add_right _ _) _).setCell (p:=⟨w.heap.size+1,1,none⟩) (Nat.le_add_right _ _) _
  have HRR:=Lib.hid hrr
  have HBB:=Lib.hid hbb
  have HE1:=Lib.hid e1
  clear hrr hbb e1
  go_wp2_with fail
  refine bodyPost_ret (results_cell_row rfl _ _ (w.heap.size+1) 46 #[.int .i64 M,.slice ar nr cr] (0,0) _ rfl ?_ Tryz.underlying46 rfl (by kernel_rfl)) rfl ?_
  ·simpa using HE1.out
  exact ⟨.slice ar nr cr,rfl,by simpa using HRR.out,HBB.out⟩
theorem Qjl : ∀ args w,(callFunc 138 args).run Tryz.prog w = .ok (.enter 138 args) w:=enters_of Tryz.func138 (by kernel_rfl) rfl
theorem Qfq (w:World) (a:Option Addr) (n c:Nat) (l:List Qx) (h:Qb Qc (Qf w.heap.size) w a n l) (hn:n<=1048576) (hb : ∀ (j:Nat) (x:Qx),l[j]? = some x->Qc.bulk x<=1048576) :
  Calls Tryz.prog 137 #[.slice a n c,.func (.func 138) #[] #[]] w fun e w' => ∃ v,e = .returned v/\ListL Qe 46 w.heap.size w'.heap.size w' v l/\Below w.heap.size w w':=by
 obtain ⟨i0,hi,hz0,hz1,hz2⟩:=info_parts Jk
 have HL:=Lib.hid h
 have HLEN:=Lib.hid h.1
 have HBK:=Lib.hid hb
 have eg:=Qjl
 clear h hb
 go_enter Tryz.func137,Tryz.ntmps137
 go_wp2_with fail
 go_loopw [5,10] (fun v i wr => ∃ k:Nat,k<=n/\i = .int .i64 k/\ListL Qe 46 w.heap.size wr.heap.size wr v (l.take k)/\Below w.heap.size w wr) (fun _ i _=>n-(intOf i).toNat)
 case atStart=>exact ⟨0,Nat.zero_le _,rfl,ListL.nil _ _ (Nat.le_refl _),Below.refl _ _⟩
 case round =>
  obtain ⟨k,hk,rfl,hl,hb⟩:=hrel
  have hsz:=hb.size
  by_cases hlt:k<n
  ·obtain ⟨b,o,x,ax,nx,cx,hx,rfl,hbB,hc0,hc1,hn1,hn2,hlx⟩:=Qcq HL.out k hlt
   have hbx:=HBK.out k x hx
   rw [Zi] at hbx
   obtain ⟨M,hM⟩ : ∃ M,x.1=M:=⟨_,rfl⟩
   rw [hM] at hc0
   have hxe:x=(M,x.2):=by rw [<- hM]
   have d0:=(hb.cell (p:=⟨b,o+k*2,none⟩) hbB).trans hc0
   have d1:=(hb.cell (p:=⟨b,o+k*2+1,none⟩) hbB).trans hc1
   have htk:l.take (k+1)=l.take k ++ [x]:=by rw [List.take_add_one,hx];rfl
   obtain ⟨av,cv,rfl,-,-⟩:=hl.form
   have htl:(l.take k).length=k:=by rw [List.length_take,HLEN.out];omega
   rw [htl] at hl |-
   have hal:=(Below.refl wr.heap.size wr).alloc (Nat.le_refl _) (.cells #[.int .i64 M,.slice ax nx cx] 46 (0,0))
   have hbk:=heap_alloc_new wr (.cells #[.int .i64 M,.slice ax nx cx] 46 (0,0))
   have hs1:(wr.alloc (.cells #[.int .i64 M,.slice ax nx cx] 46 (0,0))).heap.size=wr.heap.size+1:=by simp
   have hwb:=hb.trans (hal.mono hsz)
   have hcp:=Qfp (wr.alloc (.cells #[.int .i64 M,.slice ax nx cx] 46 (0,0))) M ax nx cx x.2 ((hlx.below hwb (Nat.le_refl _)).le hwb.size) hbx
   have HLK:=Lib.hid (hl.below hal (Nat.le_refl _))
   have HTK:=Lib.hid htk
   have HTL:=Lib.hid htl
   have HXE:=Lib.hid hxe
   have HBW:=Lib.hid hwb
   have HAL:=Lib.hid hal
   have HBN:=Lib.hid hbk
   have HS1:=Lib.hid hs1
   have HCP:=Lib.hid hcp
   clear hx hlx hc0 hc1 hn1 hn2 hM hxe htk htl hl hb hbx hbB hal hbk hs1 hwb hcp
   go_upto_region 5 with fail
   clear d0 d1
   generalize wr.alloc (.cells #[.int .i64 M,.slice ax nx cx] 46 (0,0))=wb at HLK HBW HAL HBN HS1 HCP |-
   have y0:=Qa HBN.out 0 _ rfl
   have y1:=Qa HBN.out 1 _ rfl
   go_wp2_with fail
   refine HCP.out.mono ?_
   rintro e w2 ⟨u,rfl,hr,hb2⟩
   obtain ⟨ar,cr,rfl,q1,q2,hol⟩:=hr.list (by decide)
   obtain ⟨nr,hnr⟩ : ∃ nr,x.2.length=nr:=⟨_,rfl⟩
   rw [hnr] at q1 hol |-
   have how:Qe.owns (Zb wb.heap.size w2.heap.size) w2 [.int .i64 M,.slice ar nr cr] (M,x.2):=Zx.2 ⟨ar,nr,cr,rfl,q1,q2,hol⟩
   have HOW:=Lib.hid how
   have HL2:=Lib.hid (HLK.out.below hb2 (by have:=HS1.out;omega))
   have HB2:=Lib.hid hb2
   clear how hr hb2 y0 y1 hnr hol q1 q2
   go_wp2_with (at_builtin;refine Qw (by rfl) fun K hK => ?_;refine Ju rfl (Zr (ops:=#[]) w2 (S:=Qe) (T:=46) (Ts:=26) (by rfl) _ _ (by rfl) i0 (.agg #[.int .i64 0,.slice none 0 0]) 32 Tryz.underlying26 hi hz0 hz1 hz2 rfl (by decide) (by decide) w.heap.size wr.heap.size hsz _ (l.take k) (M,x.2) [.int .i64 M,.slice ar nr cr] (Zb wb.heap.size w2.heap.size) (by rfl) HL2.out HOW.out (fun b o f=>⟨by have:=f.1;have:=HS1.out;omega,f.2⟩) Qdz (by rfl) (by rw [HTL.out];omega) ?_);intro av' nv' cv' w4 hl4 hb4 _ _;have HL4:=Lib.hid hl4;have HB4:=Lib.hid (HBW.out.trans ((HB2.out.mono HBW.out.size).trans hb4));clear hl4 hb4;refine hK _ _ ?_;clear hK K)
   go_roundw
   case rel =>
    refine ⟨k+1,by omega,by go_num,?_,HB4.out⟩
    rw [HTK.out,HXE.out]
    exact HL4.out
   case measure=>simp [intOf];omega
  ·obtain rfl:k=n:=by omega
   rw [List.take_of_length_le (Nat.le_of_eq HLEN.out)] at hl
   have HLL:=Lib.hid hl
   have HBW:=Lib.hid hb
   clear hl hb
   go_wp2_with fail
   go_ret
   exact ⟨_,rfl,HLL.out,HBW.out⟩
end Go.Proofs.YtcooobnaocbdjaaGreatDoor

end

/-! YtcooobnaocbdjaaGreatDoorPHeldL -/
section
namespace Go.Proofs.YtcooobnaocbdjaaGreatDoor
open Go
section
variable {P:Program} {ops:Array Oper} {Q:Exit->Act->World->Prop} {md:Region.Mode} {S:World->Prop} {Z:List Nat}
def Qjm (md:Region.Mode) (ops:Array Oper) (Z:List Nat) (j:Nat):Prop:= ∃ oj,ops[j]? = some oj /\ ∀ i,i<ops.size->i ∉ Z->i≠j -> ∃ e∈oj.after,Region.binds md e=true/\e.on=i
def AnyZ (P:Program) (md:Region.Mode) (ops:Array Oper) (Q:Exit->Act->World->Prop) (S:World->Prop) (Z:List Nat):Nat->Array Bool->Act->World->Prop
 | 0,listed,a,w=>Region.ready md ops listed=[]/\Q .normal a w
 | fuel+1,listed,a,w=>(Region.ready md ops listed=[]->Q .normal a w) /\
  ∀ i∈Region.ready md ops listed,wpOp P ops Q i (fun a' w'=>(Qjm md ops Z i\/S w')/\AnyZ P md ops Q S Z fuel (listed.setIfInBounds i true) a' w') a w
theorem Qlj : ∀ (fuel:Nat) (listed:Array Bool) (a:Act) (w:World),AnyZ P md ops Q S Z fuel listed a w->wpAny P md ops Q fuel listed a w
 | 0,_,_,_,h=>h
 | fuel+1,_,_,_,h=>⟨h.1,fun i hi=>wpOp_mono (fun a' w' h'=>Qlj fuel _ a' w' h'.2) (h.2 i hi)⟩
theorem Qmv {i:Nat} {oi:Oper} {v:Value} (hi:ops[i]? = some oi) (hz:i ∉ Z) (hsel : ∀ (j:Nat) (o:Oper) cs b,ops[j]? = some o->o.op ≠ .select cs b)
  (hQ : ∀ c a w,Q (.panic c) (a.put oi.dst v) w->Q (.panic c) a w) :
  ∀ (fuel:Nat) (listed:Array Bool) (a:Act) (w:World),
   (∀ j oj,ops[j]? = some oj->j≠i->listed.getD j true=false->(∀ e∈oj.after,Region.binds md e=true->e.on≠i)->oi.apart ops oj=true) ->
   i∈Region.ready md ops listed->YieldsIf P ops S oi v a->S w ->
   AnyZ P md ops Q S Z fuel (listed.setIfInBounds i true) (a.put oi.dst v) w->AnyZ P md ops Q S Z (fuel+1) listed a w:=by
 intro fuel
 induction fuel with
 | zero =>
  intro listed a w _ hr hy hS H
  refine ⟨fun h=>absurd hr (by rw [h];exact List.not_mem_nil),fun j hj => ?_⟩
  by_cases hji:j=i
  ·subst hji
   exact hy.wpOp hi hS ⟨.inr hS,H⟩
  ·exact absurd (ready_mono hj hji) (by rw [H.1];exact List.not_mem_nil)
 | succ fuel ih =>
  intro listed a w hfree hr hy hS H
  refine ⟨fun h=>absurd hr (by rw [h];exact List.not_mem_nil),fun j hj => ?_⟩
  by_cases hji:j=i
  ·subst hji
   exact hy.wpOp hi hS ⟨.inr hS,H⟩
  ·obtain ⟨hjun,oj,hoj,hall⟩:=mem_ready.1 hj
   have hun:listed[i]?.getD true=true->False:=fun h=>by
    have h0:=(mem_ready.1 hr).1
    simp_all
   have hnot : ∀ e∈oj.after,Region.binds md e=true->e.on≠i:=fun e he hb heq=>by
    have h1:=hall e he hb
    have h0:=(mem_ready.1 hr).1
    rw [heq] at h1
    rcases Nat.lt_or_ge i listed.size with h' | h'
    ·simp [h'] at h0 h1
     rw [h0] at h1
     cases h1
    ·simp [Array.getElem?_eq_none h'] at h1
   have hnl : ¬ Qjm md ops Z j:=fun ⟨o,ho,hw⟩=>by
    have hoo:oj=o:=Option.some.inj (hoj.symm.trans ho)
    subst hoo
    obtain ⟨e,he,hb,hon⟩:=hw i (Array.getElem?_eq_some_iff.1 hi).1 hz (fun e=>hji e.symm)
    exact hnot e he hb hon
   have h2:=wpOp_putIf hoj (hfree j oj hoj hji hjun hnot) (fun cs b=>hsel i oi cs b hi) (fun cs b=>hsel j oj cs b hoj) hQ hy (H.2 j (ready_mono hj hji))
   refine wpOp_mono (fun a' w' h3 => ?_) h2
   have hS':S w':=h3.2.1.resolve_left hnl
   refine ⟨.inr hS',ih (listed.setIfInBounds j true) a' w' (fun k ok hk hki hun hno=>hfree k ok hk hki ?_ hno) (ready_mono hr (Ne.symm hji)) h3.1 hS' ?_⟩
   ·by_cases hjk:j=k
    ·subst hjk
     exact hjun
    ·rw [getD_set_ne true hjk] at hun
     exact hun
   ·rw [Array.setIfInBounds_comm _ _ hji]
    exact h3.2.2
theorem J6 {i:Nat} {oi:Oper} {v:Value} {fuel:Nat} {listed:Array Bool} {a:Act} {w:World} (hi:ops[i]? = some oi) (hz:i ∉ Z)
  (hs:Region.noSelect ops=true) (hf:Region.free md ops listed i=true) (hr:(Region.ready md ops listed).contains i=true)
  (hQ : ∀ c a w,Q (.panic c) (a.put oi.dst v) w->Q (.panic c) a w) (hy:YieldsIf P ops S oi v a) (hS:S w)
  (h:AnyZ P md ops Q S Z fuel (listed.setIfInBounds i true) (a.put oi.dst v) w):AnyZ P md ops Q S Z (fuel+1) listed a w:=
 Qmv hi hz (Region.noSelect_spec hs) hQ fuel listed a w (Region.free_spec hi hf) (by simpa using hr) hy hS h
theorem Qp4 {i:Nat} {fuel:Nat} {listed:Array Bool} {a:Act} {w:World} (hr:Region.ready md ops listed=[i])
  (h:wpOp P ops Q i (fun a' w'=>(Qjm md ops Z i\/S w')/\AnyZ P md ops Q S Z fuel (listed.setIfInBounds i true) a' w') a w):AnyZ P md ops Q S Z (fuel+1) listed a w:=by
 refine ⟨fun h0 => ?_,fun j hj => ?_⟩
 ·rw [hr] at h0
  cases h0
 ·rw [hr] at hj
  rw [List.mem_singleton.1 hj]
  exact h
theorem J7 {i:Nat} {o:Oper} {fuel:Nat} {listed:Array Bool} {a:Act} {w:World} (hr:Region.ready md ops listed=[i]) (ho:ops[i]? = some o) (hw:Region.wanted o (yielded ops a.tmps)=true)
  (h : ∀ K:Act->World->Prop,(∀ a' w',(Qjm md ops Z i\/S w')->AnyZ P md ops Q S Z fuel (listed.setIfInBounds i true) a' w'->K a' w')->Oper.wp P o a w K Q):AnyZ P md ops Q S Z (fuel+1) listed a w:=
 Qp4 hr (by
  unfold wpOp
  simp only [ho,hw,if_true]
  exact .inl (h _ fun a' w' h1 h2=>⟨h1,h2⟩))
theorem Qjn {listed:Array Bool} {a:Act} {w:World} (hr:Region.ready md ops listed=[]) (h:Q .normal a w) : ∀ fuel,AnyZ P md ops Q S Z fuel listed a w
 | 0=>⟨hr,h⟩
 | _+1=>⟨fun _=>h,by rw [hr];simp⟩
theorem Qfr {id:Nat} {a:Act} {w:World} (hm:P.follows .mixedOrders=true)
  (h:AnyZ P .any ops Q S Z ops.size (Array.replicate ops.size false) a { w with drawn:=w.drawn+1 }):(Code.region id ops true).wp P Q a w:=
 wp_region_any hm (Qlj _ _ _ _ h)
def Qsc (md:Region.Mode) (ops:Array Oper) (Z:List Nat) (j:Nat):Bool:=
 match ops[j]? with
 | some oj=>(List.range ops.size).all fun i=>Z.contains i || decide (i=j) || oj.after.any fun e=>Region.binds md e && decide (e.on=i)
 | none=>false
theorem Qed {j:Nat} (h:Qsc md ops Z j=true):Qjm md ops Z j:=by
 unfold Qsc at h
 split at h
 ·rename_i oj hoj
  refine ⟨oj,hoj,fun i hi hz hne => ?_⟩
  have h1:=List.all_eq_true.1 h i (List.mem_range.2 hi)
  simp only [Bool.or_eq_true,decide_eq_true_eq,Array.any_eq_true,List.contains_iff_mem] at h1
  rcases h1 with (h1 | h1) | ⟨k,hk,h1⟩
  ·exact absurd h1 hz
  ·exact absurd h1 hne
  ·simp only [Bool.and_eq_true,decide_eq_true_eq] at h1
   exact ⟨_,Array.getElem_mem hk,h1.1,h1.2⟩
 ·cases h
end
end Go.Proofs.YtcooobnaocbdjaaGreatDoor

end
