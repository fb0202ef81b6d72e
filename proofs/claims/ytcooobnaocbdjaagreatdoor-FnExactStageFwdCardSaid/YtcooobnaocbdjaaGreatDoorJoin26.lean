import Derived.Test.YtcooobnaocbdjaaGreatDoorJoin23
import Derived.Test.YtcooobnaocbdjaaGreatDoorJoin25
import Derived.Test.YtcooobnaocbdjaaGreatDoorJoin5
import Derived.Test.YtcooobnaocbdjaaGreatDoorJoin14
import Derived.Deep.RegionHeld3
/-! YtcooobnaocbdjaaGreatDoorPStgC -/
section
set_option maxRecDepth 100000
set_option maxHeartbeats 6400000
set_option linter.unusedSimpArgs false
set_option linter.unusedVariables false
namespace Go.Proofs.YtcooobnaocbdjaaGreatDoor
open Go.RowKit Go.Sort
theorem Qbn (w:World) (a:Option Addr) (n c:Nat) (l:List dRow) (h:Qb Qi (Qf w.heap.size) w a n l) (hn:n<=1048576) (hb:Shape.sum Qi.bulk l<=1048576) :
  Calls Tryz.prog 167 #[.slice a n c] w fun e w' => ∃ v,e = .returned v/\ListL ownRow 95 w.heap.size w'.heap.size w' v l/\Below w.heap.size w w':=by
 obtain ⟨i0,hi,hz0,hz1,hz2⟩:=info_parts Qby
 have he:ListL ownRow 95 w.heap.size (w.alloc (.cells #[] 95 (0,0))).heap.size (w.alloc (.cells #[] 95 (0,0))) (.slice (some ⟨w.heap.size,0,none⟩) 0 0) []:=by
  have:=ListL.empty ownRow 95 (lo:=w.heap.size) w (Nat.le_refl _)
  exact this.wide (Nat.le_refl _) (by simp) (Nat.le_refl _)
 have hal:Below w.heap.size w (w.alloc (.cells #[] 95 (0,0))):=(Below.refl _ _).alloc (Nat.le_refl _) _
 have HL:=Lib.hid h
 have HLEN:=Lib.hid h.1
 have HBK:=Lib.hid hb
 have HE:=Lib.hid he
 have HA:=Lib.hid hal
 clear h hb he hal
 go_enter Tryz.func167,Tryz.ntmps167
 go_wp2_with fail
 generalize w.alloc (.cells #[] 95 (0,0))=W0 at HE HA |-
 go_loopw [3,4] (fun v i wr => ∃ k:Nat,k<=n/\i = .int .i64 k/\ListL ownRow 95 w.heap.size wr.heap.size wr v (l.take k)/\Below w.heap.size w wr) (fun _ i _=>n-(intOf i).toNat)
 case atStart=>exact ⟨0,Nat.zero_le _,rfl,HE.out,HA.out⟩
 case round =>
  obtain ⟨k,hk,rfl,hl,hb⟩:=hrel
  have hsz:=hb.size
  by_cases hlt:k<n
  ·obtain ⟨b,o,x,ax,nx,cx,hx,rfl,hbB,hc0,-,-,hlx⟩:=Qch HL.out k hlt
   have hbx:=Qz Qi.bulk l k x hx
   rw [Zs,Ql,hlx.1] at hbx
   have hnx:nx<=1048576:=by have:=HBK.out;omega
   have hix:=hlx.ints hnx
   have htk:l.take (k+1)=l.take k ++ [x]:=by rw [List.take_add_one,hx];rfl
   obtain ⟨av,cv,rfl,-,-⟩:=hl.form
   have htl:(l.take k).length=k:=by rw [List.length_take,HLEN.out];omega
   rw [htl] at hl |-
   have d0:=(hb.cell (p:=⟨b,o+k,none⟩) hbB).trans hc0
   have hbB':b<w.heap.size:=hbB
   have ha1:Below wr.heap.size wr (wr.alloc (.cells #[] 3 (0,0))):=(Below.refl _ _).alloc (Nat.le_refl _) _
   have hre:Row wr.heap.size (wr.alloc (.cells #[] 3 (0,0))) (.slice (some ⟨wr.heap.size,0,none⟩) 0 0) []:=
    ⟨by simp [Qp],.inr ⟨wr.heap.size,0,#[],rfl,Nat.le_refl _,heap_alloc_new wr _,Nat.le_refl _,Nat.zero_le _,by simp,by simp [Qp]⟩⟩
   have f0:=(ha1.cell (p:=⟨b,o+k,none⟩) (by show b<_;omega)).trans d0
   have HA1:=Lib.hid ha1
   have HRE:=Lib.hid hre
   have HIN:=Lib.hid (hix.below (hb.trans (ha1.mono hsz)) (Nat.le_refl _))
   have HLK:=Lib.hid hl
   have HTK:=Lib.hid htk
   have HTL:=Lib.hid htl
   have HBW:=Lib.hid hb
   clear hx hlx hix hc0 htk htl hl hb hbx hbB ha1 hre d0
   go_upto_region 5 with fail
   go_wp2_with (first
    | (
      at_builtin
      refine Qw (by rfl) fun K hK => ?_
      refine Ju rfl (Zv (ops:=#[]) _ rfl _ _ (by rfl) wr.heap.size _ [] (by rfl) HRE.out ax nx cx w.heap.size x (by rfl) HIN.out (by simp) HA1.out.size ?_)
      intro ar nr cr w2 hr hg
      rw [List.nil_append] at hr
      have hb2:Below wr.heap.size wr w2:=HA1.out.trans ((Below.refl wr.heap.size _).grown hg HA1.out.size fun q hq=>by cases hq;exact Nat.le_refl _)
      have hl2:=HLK.out.below hb2 (Nat.le_refl _)
      have HR2:=Lib.hid hr
      have HB2:=Lib.hid hb2
      have HL2:=Lib.hid hl2
      clear hr hg hb2 hl2
      refine hK _ _ ?_
      clear hK K)
    | (
      at_builtin
      refine Qw (by rfl) fun K hK => ?_
      refine Ju rfl (Zr (ops:=#[]) w2 (S:=ownRow) (T:=95) (Ts:=27) (by rfl) _ _ (by rfl) i0 (.agg #[.slice none 0 0]) 24 Tryz.underlying27 hi hz0 hz1 hz2 rfl (by decide) (by decide) w.heap.size wr.heap.size hsz _ (l.take k) x [.slice ar nr cr] (Zb wr.heap.size w2.heap.size) (by rfl) HL2.out HR2.out.ownRow (fun b o f=>f) (Qcw _ _ _) (by rfl) (by rw [HTL.out];omega) ?_)
      intro av' nv' cv' w4 hl4 hb4 _ _
      have HL4:=Lib.hid hl4
      have HB4:=Lib.hid (HBW.out.trans ((HB2.out.mono hsz).trans hb4))
      clear hl4 hb4
      refine hK _ _ ?_
      clear hK K))
   go_roundw
   case rel =>
    refine ⟨k+1,by omega,by go_num,?_,HB4.out⟩
    rw [HTK.out]
    exact HL4.out
   case measure=>simp [intOf];omega
  ·obtain rfl:k=n:=by omega
   rw [List.take_of_length_le (Nat.le_of_eq HLEN.out)] at hl
   have HLL:=Lib.hid hl
   have HBW:=Lib.hid hb
   clear hl hb
   go_wp2_with fail
   go_ret
   exact ⟨_,rfl,HLL.out,HBW.out⟩
end Go.Proofs.YtcooobnaocbdjaaGreatDoor

end

/-! YtcooobnaocbdjaaGreatDoorPOwnI -/
section
set_option linter.unusedVariables false
namespace Go.Proofs.YtcooobnaocbdjaaGreatDoor
open Go.RowKit
def Qo:Owned dIns:= .struct (.cons Owned.int (.last Owned.int))
theorem Qak:Qo.size=2:=rfl
theorem Qdf {F:Foot} {w:World} {cs:List Value} {d:dIns}:Qo.owns F w cs d ↔ cs=[.int .i64 d.1,.int .i64 d.2]:=by
 constructor
 ·rintro ⟨_,_,_,_,rfl,rfl,rfl,-⟩
  rfl
 ·rintro rfl
  exact ⟨_,_,fun _ _=>False,fun _ _=>False,rfl,rfl,rfl,fun _ _ h=>h.elim,fun _ _ h=>h.elim,fun _ _ h=>h.elim⟩
theorem Qkr {I:Nat->Prop} {w:World} {cs:List Value} {d:dIns}:Z1.reads I w cs d ↔ cs=[.int .i64 d.1,.int .i64 d.2]:=Qdb
theorem Qg3 (d:dIns):Z1.bulk d=0:=rfl
theorem TwoR.own {T:TypeId} {base:Nat} {w:World} {v:Value} {xs:List dIns} (h:TwoR T base w v xs):(Owned.list Qo (by decide)).owns (Zb base w.heap.size) w [v] xs:=by
 have hcs:=fun g (h':v.ownBlock=some g)=>World.ownsRow.cells h (g:=g) h'
 have hlt:=World.ownsRow.lt h
 rcases h.2 with ⟨rfl,hn⟩ | ⟨g,cap,cur,rfl,_,hg,hc,hm,hsz,_⟩
 ·obtain rfl:xs=[]:=List.eq_nil_of_length_eq_zero hn
  exact ⟨none,0,0,rfl,Nat.le_refl _,by omega,rfl,.inl rfl⟩
 ·unfold maxLen at hm
  refine ⟨_,xs.length,cap,rfl,by omega,by omega,rfl,.inr ⟨g,0,fun _ _ _=>False,rfl,fun i hi=>hlt g rfl,fun j hj => ?_,fun j x hx => ?_,fun j b' o' f=>f.elim,fun j j' _ b' o' f=>f.elim⟩⟩
  ·have hj':j<xs.length*2:=hj
   constructor
   ·rw [Nat.zero_add,World.ownsRow.cellAt h j hj',List.getElem?_eq_getElem (by rw [Jj];exact hj')]
    rfl
   ·exact frozen_of_row _ _ _ _ _ hg
  ·have hj:=(List.getElem?_eq_some_iff.1 hx).1
   have hxe:xs.getD j (0,0)=x:=by rw [List.getD_eq_getElem?_getD,hx];rfl
   refine ⟨[.int .i64 x.1,.int .i64 x.2],fun i v hv => ?_,Qdf.2 rfl⟩
   have e0:=hcs g rfl _ _ (Qa4 xs j hj)
   have e1:=hcs g rfl _ _ (Qa5 xs j hj)
   rw [Addr.add_lit,hxe] at e0 e1
   match i,hv with
   | 0,hv=>cases hv;simpa [Qak] using e0
   | 1,hv=>cases hv;simpa [Qak] using e1
   | i+2,hv=>simp at hv
theorem Qp2 (w:World) (B:Nat) (a:Option Addr) (n c:Nat) (xs:List dIns) (h:Qb Z1 (Qf B) w a n xs) (hB:B<=w.heap.size) (hb:(Shape.list Z1).bulk xs<=1048576) :
  Calls Tryz.prog 77 #[.slice a n c] w fun e w'=>e = .returned (.slice (some ⟨w.heap.size,0,none⟩) n n)/\Qk Qo (Zb w.heap.size w'.heap.size) w' (some ⟨w.heap.size,0,none⟩) n xs/\Below w.heap.size w w':=by
 refine (Qgt w.heap.size w a n c xs (h.twoIn hB hb) (Nat.le_refl _)).mono ?_
 rintro e w' ⟨rfl,hr,hbw⟩
 obtain ⟨a',n',c',e',_,_,hr'⟩:=TwoR.own hr
 cases e'
 exact ⟨rfl,hr',hbw⟩
theorem Qoj : ∀ xs:List dIns,Shape.sum Qo.ct xs=2*xs.length
 | []=>rfl
 | x::l=>by
  have e:Shape.sum Qo.ct (x::l)=Qo.ct x+Shape.sum Qo.ct l:=rfl
  rw [e,Qoj l,List.length_cons]
  show 2+_=_
  omega
theorem Qlh (xs:List dIns):Shape.sum Qo.ct xs<=16*(Shape.list Z1).bulk xs:=by
 rw [Qoj,Qdm]
 omega
end Go.Proofs.YtcooobnaocbdjaaGreatDoor

end

/-! YtcooobnaocbdjaaGreatDoorPStgN -/
section
set_option maxHeartbeats 6400000
set_option linter.unusedSimpArgs false
set_option linter.unusedVariables false
namespace Go.Proofs.YtcooobnaocbdjaaGreatDoor
open Go.RowKit Go.Sort
theorem Zn {wx:World} {g:Nat} {T:TypeId} {u0 u1 u2 u3 u4 u5 u6 u7 u8 u9 u10 u11 u12 u13:Value} (k:wx.heap[g]? = some (.cells #[u0,u1,u2,u3,u4,u5,u6,u7,u8,u9,u10,u11,u12,u13] T (0,0))) (v0 v1 v2 v3 v4 v5 v6 v7 v8 v9 v10 v11 v12 v13:Value) :
  ((((((((((((((wx.setCell ⟨g,0,none⟩ v0).setCell ⟨g,1,none⟩ v1).setCell ⟨g,2,none⟩ v2).setCell ⟨g,3,none⟩ v3).setCell ⟨g,4,none⟩ v4).setCell ⟨g,5,none⟩ v5).setCell ⟨g,6,none⟩ v6).setCell ⟨g,7,none⟩ v7).setCell ⟨g,8,none⟩ v8).setCell ⟨g,9,none⟩ v9).setCell ⟨g,10,none⟩ v10).setCell ⟨g,11,none⟩ v11).setCell ⟨g,12,none⟩ v12).setCell ⟨g,13,none⟩ v13).heap[g]? = some (.cells #[v0,v1,v2,v3,v4,v5,v6,v7,v8,v9,v10,v11,v12,v13] T (0,0))/\((((((((((((((wx.setCell ⟨g,0,none⟩ v0).setCell ⟨g,1,none⟩ v1).setCell ⟨g,2,none⟩ v2).setCell ⟨g,3,none⟩ v3).setCell ⟨g,4,none⟩ v4).setCell ⟨g,5,none⟩ v5).setCell ⟨g,6,none⟩ v6).setCell ⟨g,7,none⟩ v7).setCell ⟨g,8,none⟩ v8).setCell ⟨g,9,none⟩ v9).setCell ⟨g,10,none⟩ v10).setCell ⟨g,11,none⟩ v11).setCell ⟨g,12,none⟩ v12).setCell ⟨g,13,none⟩ v13).heap.size=wx.heap.size/\(∀ b,b≠g->((((((((((((((wx.setCell ⟨g,0,none⟩ v0).setCell ⟨g,1,none⟩ v1).setCell ⟨g,2,none⟩ v2).setCell ⟨g,3,none⟩ v3).setCell ⟨g,4,none⟩ v4).setCell ⟨g,5,none⟩ v5).setCell ⟨g,6,none⟩ v6).setCell ⟨g,7,none⟩ v7).setCell ⟨g,8,none⟩ v8).setCell ⟨g,9,none⟩ v9).setCell ⟨g,10,none⟩ v10).setCell ⟨g,11,none⟩ v11).setCell ⟨g,12,none⟩ v12).setCell ⟨g,13,none⟩ v13).heap[b]? = wx.heap[b]?) /\ ∀ B w,B<=g->Below B w wx->Below B w ((((((((((((((wx.setCell ⟨g,0,none⟩ v0).setCell ⟨g,1,none⟩ v1).setCell ⟨g,2,none⟩ v2).setCell ⟨g,3,none⟩ v3).setCell ⟨g,4,none⟩ v4).setCell ⟨g,5,none⟩ v5).setCell ⟨g,6,none⟩ v6).setCell ⟨g,7,none⟩ v7).setCell ⟨g,8,none⟩ v8).setCell ⟨g,9,none⟩ v9).setCell ⟨g,10,none⟩ v10).setCell ⟨g,11,none⟩ v11).setCell ⟨g,12,none⟩ v12).setCell ⟨g,13,none⟩ v13):=by
 have k0:(wx.setCell ⟨g,0,none⟩ v0).heap[g]? = some (.cells #[v0,u1,u2,u3,u4,u5,u6,u7,u8,u9,u10,u11,u12,u13] T (0,0)):=by
  have:=heap_setCell_same _ g 0 _ _ v0 k
  simpa only [List.setIfInBounds_toArray,List.set_cons_zero,List.set_cons_succ] using this
 have k1:((wx.setCell ⟨g,0,none⟩ v0).setCell ⟨g,1,none⟩ v1).heap[g]? = some (.cells #[v0,v1,u2,u3,u4,u5,u6,u7,u8,u9,u10,u11,u12,u13] T (0,0)):=by
  have:=heap_setCell_same _ g 1 _ _ v1 k0
  simpa only [List.setIfInBounds_toArray,List.set_cons_zero,List.set_cons_succ] using this
 have k2:(((wx.setCell ⟨g,0,none⟩ v0).setCell ⟨g,1,none⟩ v1).setCell ⟨g,2,none⟩ v2).heap[g]? = some (.cells #[v0,v1,v2,u3,u4,u5,u6,u7,u8,u9,u10,u11,u12,u13] T (0,0)):=by
  have:=heap_setCell_same _ g 2 _ _ v2 k1
  simpa only [List.setIfInBounds_toArray,List.set_cons_zero,List.set_cons_succ] using this
 have k3:((((wx.setCell ⟨g,0,none⟩ v0).setCell ⟨g,1,none⟩ v1).setCell ⟨g,2,none⟩ v2).setCell ⟨g,3,none⟩ v3).heap[g]? = some (.cells #[v0,v1,v2,v3,u4,u5,u6,u7,u8,u9,u10,u11,u12,u13] T (0,0)):=by
  have:=heap_setCell_same _ g 3 _ _ v3 k2
  simpa only [List.setIfInBounds_toArray,List.set_cons_zero,List.set_cons_succ] using this
 have k4:(((((wx.setCell ⟨g,0,none⟩ v0).setCell ⟨g,1,none⟩ v1).setCell ⟨g,2,none⟩ v2).setCell ⟨g,3,none⟩ v3).setCell ⟨g,4,none⟩ v4).heap[g]? = some (.cells #[v0,v1,v2,v3,v4,u5,u6,u7,u8,u9,u10,u11,u12,u13] T (0,0)):=by
  have:=heap_setCell_same _ g 4 _ _ v4 k3
  simpa only [List.setIfInBounds_toArray,List.set_cons_zero,List.set_cons_succ] using this
 have k5:((((((wx.setCell ⟨g,0,none⟩ v0).setCell ⟨g,1,none⟩ v1).setCell ⟨g,2,none⟩ v2).setCell ⟨g,3,none⟩ v3).setCell ⟨g,4,none⟩ v4).setCell ⟨g,5,none⟩ v5).heap[g]? = some (.cells #[v0,v1,v2,v3,v4,v5,u6,u7,u8,u9,u10,u11,u12,u13] T (0,0)):=by
  have:=heap_setCell_same _ g 5 _ _ v5 k4
  simpa only [List.setIfInBounds_toArray,List.set_cons_zero,List.set_cons_succ] using this
 have k6:(((((((wx.setCell ⟨g,0,none⟩ v0).setCell ⟨g,1,none⟩ v1).setCell ⟨g,2,none⟩ v2).setCell ⟨g,3,none⟩ v3).setCell ⟨g,4,none⟩ v4).setCell ⟨g,5,none⟩ v5).setCell ⟨g,6,none⟩ v6).heap[g]? = some (.cells #[v0,v1,v2,v3,v4,v5,v6,u7,u8,u9,u10,u11,u12,u13] T (0,0)):=by
  have:=heap_setCell_same _ g 6 _ _ v6 k5
  simpa only [List.setIfInBounds_toArray,List.set_cons_zero,List.set_cons_succ] using this
 have k7:((((((((wx.setCell ⟨g,0,none⟩ v0).setCell ⟨g,1,none⟩ v1).setCell ⟨g,2,none⟩ v2).setCell ⟨g,3,none⟩ v3).setCell ⟨g,4,none⟩ v4).setCell ⟨g,5,none⟩ v5).setCell ⟨g,6,none⟩ v6).setCell ⟨g,7,none⟩ v7).heap[g]? = some (.cells #[v0,v1,v2,v3,v4,v5,v6,v7,u8,u9,u10,u11,u12,u13] T (0,0)):=by
  have:=heap_setCell_same _ g 7 _ _ v7 k6
  simpa only [List.setIfInBounds_toArray,List.set_cons_zero,List.set_cons_succ] using this
 have k8:(((((((((wx.setCell ⟨g,0,none⟩ v0).setCell ⟨g,1,none⟩ v1).setCell ⟨g,2,none⟩ v2).setCell ⟨g,3,none⟩ v3).setCell ⟨g,4,none⟩ v4).setCell ⟨g,5,none⟩ v5).setCell ⟨g,6,none⟩ v6).setCell ⟨g,7,none⟩ v7).setCell ⟨g,8,none⟩ v8).heap[g]? = some (.cells #[v0,v1,v2,v3,v4,v5,v6,v7,v8,u9,u10,u11,u12,u13] T (0,0)):=by
  have:=heap_setCell_same _ g 8 _ _ v8 k7
  simpa only [List.setIfInBounds_toArray,List.set_cons_zero,List.set_cons_succ] using this
 have k9:((((((((((wx.setCell ⟨g,0,none⟩ v0).setCell ⟨g,1,none⟩ v1).setCell ⟨g,2,none⟩ v2).setCell ⟨g,3,none⟩ v3).setCell ⟨g,4,none⟩ v4).setCell ⟨g,5,none⟩ v5).setCell ⟨g,6,none⟩ v6).setCell ⟨g,7,none⟩ v7).setCell ⟨g,8,none⟩ v8).setCell ⟨g,9,none⟩ v9).heap[g]? = some (.cells #[v0,v1,v2,v3,v4,v5,v6,v7,v8,v9,u10,u11,u12,u13] T (0,0)):=by
  have:=heap_setCell_same _ g 9 _ _ v9 k8
  simpa only [List.setIfInBounds_toArray,List.set_cons_zero,List.set_cons_succ] using this
 have k10:(((((((((((wx.setCell ⟨g,0,none⟩ v0).setCell ⟨g,1,none⟩ v1).setCell ⟨g,2,none⟩ v2).setCell ⟨g,3,none⟩ v3).setCell ⟨g,4,none⟩ v4).setCell ⟨g,5,none⟩ v5).setCell ⟨g,6,none⟩ v6).setCell ⟨g,7,none⟩ v7).setCell ⟨g,8,none⟩ v8).setCell ⟨g,9,none⟩ v9).setCell ⟨g,10,none⟩ v10).heap[g]? = some (.cells #[v0,v1,v2,v3,v4,v5,v6,v7,v8,v9,v10,u11,u12,u13] T (0,0)):=by
  have:=heap_setCell_same _ g 10 _ _ v10 k9
  simpa only [List.setIfInBounds_toArray,List.set_cons_zero,List.set_cons_succ] using this
 have k11:((((((((((((wx.setCell ⟨g,0,none⟩ v0).setCell ⟨g,1,none⟩ v1).setCell ⟨g,2,none⟩ v2).setCell ⟨g,3,none⟩ v3).setCell ⟨g,4,none⟩ v4).setCell ⟨g,5,none⟩ v5).setCell ⟨g,6,none⟩ v6).setCell ⟨g,7,none⟩ v7).setCell ⟨g,8,none⟩ v8).setCell ⟨g,9,none⟩ v9).setCell ⟨g,10,none⟩ v10).setCell ⟨g,11,none⟩ v11).heap[g]? = some (.cells #[v0,v1,v2,v3,v4,v5,v6,v7,v8,v9,v10,v11,u12,u13] T (0,0)):=by
  have:=heap_setCell_same _ g 11 _ _ v11 k10
  simpa only [List.setIfInBounds_toArray,List.set_cons_zero,List.set_cons_succ] using this
 have k12:(((((((((((((wx.setCell ⟨g,0,none⟩ v0).setCell ⟨g,1,none⟩ v1).setCell ⟨g,2,none⟩ v2).setCell ⟨g,3,none⟩ v3).setCell ⟨g,4,none⟩ v4).setCell ⟨g,5,none⟩ v5).setCell ⟨g,6,none⟩ v6).setCell ⟨g,7,none⟩ v7).setCell ⟨g,8,none⟩ v8).setCell ⟨g,9,none⟩ v9).setCell ⟨g,10,none⟩ v10).setCell ⟨g,11,none⟩ v11).setCell ⟨g,12,none⟩ v12).heap[g]? = some (.cells #[v0,v1,v2,v3,v4,v5,v6,v7,v8,v9,v10,v11,v12,u13] T (0,0)):=by
  have:=heap_setCell_same _ g 12 _ _ v12 k11
  simpa only [List.setIfInBounds_toArray,List.set_cons_zero,List.set_cons_succ] using this
 have k13:((((((((((((((wx.setCell ⟨g,0,none⟩ v0).setCell ⟨g,1,none⟩ v1).setCell ⟨g,2,none⟩ v2).setCell ⟨g,3,none⟩ v3).setCell ⟨g,4,none⟩ v4).setCell ⟨g,5,none⟩ v5).setCell ⟨g,6,none⟩ v6).setCell ⟨g,7,none⟩ v7).setCell ⟨g,8,none⟩ v8).setCell ⟨g,9,none⟩ v9).setCell ⟨g,10,none⟩ v10).setCell ⟨g,11,none⟩ v11).setCell ⟨g,12,none⟩ v12).setCell ⟨g,13,none⟩ v13).heap[g]? = some (.cells #[v0,v1,v2,v3,v4,v5,v6,v7,v8,v9,v10,v11,v12,v13] T (0,0)):=by
  have:=heap_setCell_same _ g 13 _ _ v13 k12
  simpa only [List.setIfInBounds_toArray,List.set_cons_zero,List.set_cons_succ] using this
 refine ⟨k13,by simp only [World.size_setCell],fun b hb => ?_,fun B w hB h => ?_⟩
 ·iterate 14 rw [heap_setCell_other _ _ _ _ (by exact hb)]
 ·exact (((((((((((((h.setCell (p:=⟨g,0,none⟩) hB v0).setCell (p:=⟨g,1,none⟩) hB v1).setCell (p:=⟨g,2,none⟩) hB v2).setCell (p:=⟨g,3,none⟩) hB v3).setCell (p:=⟨g,4,none⟩) hB v4).setCell (p:=⟨g,5,none⟩) hB v5).setCell (p:=⟨g,6,none⟩) hB v6).setCell (p:=⟨g,7,none⟩) hB v7).setCell (p:=⟨g,8,none⟩) hB v8).setCell (p:=⟨g,9,none⟩) hB v9).setCell (p:=⟨g,10,none⟩) hB v10).setCell (p:=⟨g,11,none⟩) hB v11).setCell (p:=⟨g,12,none⟩) hB v12).setCell (p:=⟨g,13,none⟩) hB v13
abbrev Zj:Array Value:=#[.int .i64 0,.slice none 0 0,.slice none 0 0,.bool false,.bool false,.slice none 0 0,.slice none 0 0,.slice none 0 0,.slice none 0 0,.slice none 0 0,.slice none 0 0,.slice none 0 0,.int .i64 0,.bool false]
end Go.Proofs.YtcooobnaocbdjaaGreatDoor

end
