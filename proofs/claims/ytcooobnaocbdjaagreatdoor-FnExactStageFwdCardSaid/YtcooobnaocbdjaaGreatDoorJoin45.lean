import Derived.Test.YtcooobnaocbdjaaGreatDoorJoin42
import Derived.Test.YtcooobnaocbdjaaGreatDoorJoin43
import Derived.Test.YtcooobnaocbdjaaGreatDoorJoin44
import Derived.Deep.DeepCutAuto
import Derived.Deep.RegionLaw
set_option maxRecDepth 100000
set_option maxHeartbeats 6400000
set_option linter.unusedSimpArgs false
set_option linter.unusedVariables false
namespace Go.Proofs.YtcooobnaocbdjaaGreatDoor
open Go.RowKit
theorem Qfx (w:World) (es0:List Value) (x0:Qq) (h0:Qd.reads (Qf w.heap.size) w es0 x0) (a1:Int) (a2:Option Addr) (n2 c2:Nat) (x2:List Int) (h2:Qb Shape.int (Qf w.heap.size) w a2 n2 x2) (m2:n2<=9223372036854775807) (a3:Option Addr) (n3 c3:Nat) (x3:List Int) (h3:Qb Shape.int (Qf w.heap.size) w a3 n3 x3) (m3:n3<=9223372036854775807) (hwd:Qkl (Zc x0)) (h64:In64 a1) (hg:Z0 w) :
  Calls Tryz.prog 4 #[(.agg es0.toArray),(.int .i64 a1),(.slice a2 n2 c2),(.slice a3 n3 c3)] w fun e w'=>e = .returned (.bool true)/\Below w.heap.size w w':=by
 obtain ⟨a0_0,n0_0,c0_0,a0_1,n0_1,c0_1,a0_2,n0_2,c0_2,a0_3,n0_3,c0_3,a0_4,n0_4,c0_4,a0_5,n0_5,c0_5,a0_6,n0_6,c0_6,a0_7,n0_7,c0_7,a0_8,n0_8,c0_8,rfl,-⟩:=Qn.1 h0
 obtain ⟨u0,hu0⟩ : ∃ u,Qd.bulk x0=u:=⟨_,rfl⟩
 obtain ⟨k0,hk0⟩ : ∃ k,Qg.ctT x0=k:=⟨_,rfl⟩
 have K0:=Lib.hid hk0
 have fw0:k0<=16*u0:=by rw [<- hk0,<- hu0];exact Qjv x0
 have U0:=Lib.hid hu0
 have F0:=Lib.hid h0
 obtain ⟨u2,hu2⟩ : ∃ u,(Shape.list Shape.int).bulk x2=u:=⟨_,rfl⟩
 obtain ⟨k2,hk2⟩ : ∃ k,(Shape.sum Owned.int.ct x2)=k:=⟨_,rfl⟩
 have K2:=Lib.hid hk2
 have fw2:k2<=16*u2:=by rw [<- hk2,<- hu2];exact Qaa x2
 have uv2:u2=n2:=by rw [<- hu2,Ql];exact h2.1
 have U2:=Lib.hid hu2
 have F2:=Lib.hid h2
 obtain ⟨u3,hu3⟩ : ∃ u,(Shape.list Shape.int).bulk x3=u:=⟨_,rfl⟩
 obtain ⟨k3,hk3⟩ : ∃ k,(Shape.sum Owned.int.ct x3)=k:=⟨_,rfl⟩
 have K3:=Lib.hid hk3
 have fw3:k3<=16*u3:=by rw [<- hk3,<- hu3];exact Qaa x3
 have uv3:u3=n3:=by rw [<- hu3,Ql];exact h3.1
 have U3:=Lib.hid hu3
 have F3:=Lib.hid h3
 have T:=Lib.hid (Below.refl w.heap.size w)
 have hlt:=hg.lt
 have HG:=Lib.hid hg
 have HWD:=Lib.hid hwd
 clear hwd
 have H64:=Lib.hid h64
 clear h64
 clear hu0 hk0 h0 hu2 hk2 h2 hu3 hk3 h3 hg
 by_cases g2:(n2:Int)>1048576
 ·have ge2:decide ((n2:Int)>1048576)=true:=decide_eq_true g2
  have ge2':decide ((1048576:Int)<n2)=true:=decide_eq_true g2
  have hb:=Lib.hid ((Below.refl w.heap.size w).alloc (Nat.le_refl _) (.cells #[.int .i64 x0.1,.slice a0_0 n0_0 c0_0,.slice a0_1 n0_1 c0_1,.bool x0.2.2.2.1,.bool x0.2.2.2.2.1,.slice a0_2 n0_2 c0_2,.slice a0_3 n0_3 c0_3,.slice a0_4 n0_4 c0_4,.slice a0_5 n0_5 c0_5,.slice a0_6 n0_6 c0_6,.slice a0_7 n0_7 c0_7,.slice a0_8 n0_8 c0_8,.int .i64 x0.2.2.2.2.2.2.2.2.2.2.2.2.1,.bool x0.2.2.2.2.2.2.2.2.2.2.2.2.2] 56 (0,0)))
  go_enter Tryz.func4,Tryz.ntmps4
  go_wp2_with fail
  go_ret
  exact ⟨rfl,hb.out⟩
 ·have ge2:decide ((n2:Int)>1048576)=false:=decide_eq_false g2
  have ge2':decide ((1048576:Int)<n2)=false:=decide_eq_false g2
  by_cases g3:(n3:Int)>1048576
  ·have ge3:decide ((n3:Int)>1048576)=true:=decide_eq_true g3
   have ge3':decide ((1048576:Int)<n3)=true:=decide_eq_true g3
   have hb:=Lib.hid ((Below.refl w.heap.size w).alloc (Nat.le_refl _) (.cells #[.int .i64 x0.1,.slice a0_0 n0_0 c0_0,.slice a0_1 n0_1 c0_1,.bool x0.2.2.2.1,.bool x0.2.2.2.2.1,.slice a0_2 n0_2 c0_2,.slice a0_3 n0_3 c0_3,.slice a0_4 n0_4 c0_4,.slice a0_5 n0_5 c0_5,.slice a0_6 n0_6 c0_6,.slice a0_7 n0_7 c0_7,.slice a0_8 n0_8 c0_8,.int .i64 x0.2.2.2.2.2.2.2.2.2.2.2.2.1,.bool x0.2.2.2.2.2.2.2.2.2.2.2.2.2] 56 (0,0)))
   go_enter Tryz.func4,Tryz.ntmps4
   go_wp2_with fail
   go_ret
   exact ⟨rfl,hb.out⟩
  ·have ge3:decide ((n3:Int)>1048576)=false:=decide_eq_false g3
   have ge3':decide ((1048576:Int)<n3)=false:=decide_eq_false g3
   by_cases f0:((u0:Nat):Int)<=1048576
   ·have hk0:(w.alloc (.cells #[.int .i64 x0.1,.slice a0_0 n0_0 c0_0,.slice a0_1 n0_1 c0_1,.bool x0.2.2.2.1,.bool x0.2.2.2.2.1,.slice a0_2 n0_2 c0_2,.slice a0_3 n0_3 c0_3,.slice a0_4 n0_4 c0_4,.slice a0_5 n0_5 c0_5,.slice a0_6 n0_6 c0_6,.slice a0_7 n0_7 c0_7,.slice a0_8 n0_8 c0_8,.int .i64 x0.2.2.2.2.2.2.2.2.2.2.2.2.1,.bool x0.2.2.2.2.2.2.2.2.2.2.2.2.2] 56 (0,0))).heap[w.heap.size]? = some (.cells #[.int .i64 x0.1,.slice a0_0 n0_0 c0_0,.slice a0_1 n0_1 c0_1,.bool x0.2.2.2.1,.bool x0.2.2.2.2.1,.slice a0_2 n0_2 c0_2,.slice a0_3 n0_3 c0_3,.slice a0_4 n0_4 c0_4,.slice a0_5 n0_5 c0_5,.slice a0_6 n0_6 c0_6,.slice a0_7 n0_7 c0_7,.slice a0_8 n0_8 c0_8,.int .i64 x0.2.2.2.2.2.2.2.2.2.2.2.2.1,.bool x0.2.2.2.2.2.2.2.2.2.2.2.2.2] 56 (0,0)):=by
     have:=heap_alloc_new w (.cells #[.int .i64 x0.1,.slice a0_0 n0_0 c0_0,.slice a0_1 n0_1 c0_1,.bool x0.2.2.2.1,.bool x0.2.2.2.2.1,.slice a0_2 n0_2 c0_2,.slice a0_3 n0_3 c0_3,.slice a0_4 n0_4 c0_4,.slice a0_5 n0_5 c0_5,.slice a0_6 n0_6 c0_6,.slice a0_7 n0_7 c0_7,.slice a0_8 n0_8 c0_8,.int .i64 x0.2.2.2.2.2.2.2.2.2.2.2.2.1,.bool x0.2.2.2.2.2.2.2.2.2.2.2.2.2] 56 (0,0))
     simpa using this
    have hb:=(Below.refl w.heap.size w).alloc (Nat.le_refl _) (.cells #[.int .i64 x0.1,.slice a0_0 n0_0 c0_0,.slice a0_1 n0_1 c0_1,.bool x0.2.2.2.1,.bool x0.2.2.2.2.1,.slice a0_2 n0_2 c0_2,.slice a0_3 n0_3 c0_3,.slice a0_4 n0_4 c0_4,.slice a0_5 n0_5 c0_5,.slice a0_6 n0_6 c0_6,.slice a0_7 n0_7 c0_7,.slice a0_8 n0_8 c0_8,.int .i64 x0.2.2.2.2.2.2.2.2.2.2.2.2.1,.bool x0.2.2.2.2.2.2.2.2.2.2.2.2.2] 56 (0,0))
    have szw1:w.heap.size+1=(w.alloc (.cells #[.int .i64 x0.1,.slice a0_0 n0_0 c0_0,.slice a0_1 n0_1 c0_1,.bool x0.2.2.2.1,.bool x0.2.2.2.2.1,.slice a0_2 n0_2 c0_2,.slice a0_3 n0_3 c0_3,.slice a0_4 n0_4 c0_4,.slice a0_5 n0_5 c0_5,.slice a0_6 n0_6 c0_6,.slice a0_7 n0_7 c0_7,.slice a0_8 n0_8 c0_8,.int .i64 x0.2.2.2.2.2.2.2.2.2.2.2.2.1,.bool x0.2.2.2.2.2.2.2.2.2.2.2.2.2] 56 (0,0))).heap.size:=by simp
    go_enter Tryz.func4,Tryz.ntmps4
    go_wp2_with fail
    generalize (w.alloc (.cells #[.int .i64 x0.1,.slice a0_0 n0_0 c0_0,.slice a0_1 n0_1 c0_1,.bool x0.2.2.2.1,.bool x0.2.2.2.2.1,.slice a0_2 n0_2 c0_2,.slice a0_3 n0_3 c0_3,.slice a0_4 n0_4 c0_4,.slice a0_5 n0_5 c0_5,.slice a0_6 n0_6 c0_6,.slice a0_7 n0_7 c0_7,.slice a0_8 n0_8 c0_8,.int .i64 x0.2.2.2.2.2.2.2.2.2.2.2.2.1,.bool x0.2.2.2.2.2.2.2.2.2.2.2.2.2] 56 (0,0)))=w1 at hb szw1 hk0 |-
    replace F0:=Lib.hid (Qd.below F0.out hb (by omega))
    replace F2:=Lib.hid (F2.out.below hb (by omega))
    replace F3:=Lib.hid (F3.out.below hb (by omega))
    replace T:=Lib.hid (T.out.trans (hb.mono (by omega)))
    have AB0:=Lib.hid hk0
    clear hb hk0
    have hc:=Qim _ _ _ x0 (1048576) F0.out (by omega) (by omega) (by omega)
    rw [U0.out,Zm (by omega)] at hc
    obtain ⟨l0,hl0⟩ : ∃ l,1048576-(u0:Int)=l:=⟨_,rfl⟩
    rw [hl0] at hc
    have t0:decide (l0<0)=false:=decide_eq_false (by omega)
    have HC:=Lib.hid hc
    clear hc
    refine HC.out.mono ?_
    rintro e w2 ⟨rfl,hb⟩
    clear HC
    have szw2:=hb.size
    replace F0:=Lib.hid (Qd.below F0.out hb (by omega))
    replace F2:=Lib.hid (F2.out.below hb (by omega))
    replace F3:=Lib.hid (F3.out.below hb (by omega))
    replace AB0:=Lib.hid ((hb.block w.heap.size (by omega)).trans AB0.out)
    replace T:=Lib.hid (T.out.trans (hb.mono (by omega)))
    clear hb
    have ub:u0<=1048576:=by omega
    have ub2:u2<=1048576:=by omega
    have ub3:u3<=1048576:=by omega
    have ln2:n2<=1048576:=by have e1:=Qh Shape.int F2.out;have e2:=U2.out;omega
    have ln3:n3<=1048576:=by have e1:=Qh Shape.int F3.out;have e2:=U3.out;omega
    obtain ⟨v,hv⟩ : ∃ v,fwdN x0 a1 x2 x3=v:=⟨_,rfl⟩
    have vb:Js v:=by
     rw [<- hv]
     exact Qos (by rw [U0.out];omega) a1
    obtain ⟨kv,hkv⟩ : ∃ k,Qg.ctT v=k:=⟨_,rfl⟩
    have fwv:kv<=167772160:=by rw [<- hkv];exact Qez vb
    have KV:=Lib.hid hkv
    have HV:=Lib.hid hv
    clear hv hkv
    have HC:=Lib.hid (Qfb _ _ _ x0 F0.out (by omega) (by rw [U0.out];omega))
    have za_0:=cell_of_row _ w.heap.size 0 _ _ _ AB0.out
    have za_1:=cell_of_row _ w.heap.size 1 _ _ _ AB0.out
    have za_2:=cell_of_row _ w.heap.size 2 _ _ _ AB0.out
    have za_3:=cell_of_row _ w.heap.size 3 _ _ _ AB0.out
    have za_4:=cell_of_row _ w.heap.size 4 _ _ _ AB0.out
    have za_5:=cell_of_row _ w.heap.size 5 _ _ _ AB0.out
    have za_6:=cell_of_row _ w.heap.size 6 _ _ _ AB0.out
    have za_7:=cell_of_row _ w.heap.size 7 _ _ _ AB0.out
    have za_8:=cell_of_row _ w.heap.size 8 _ _ _ AB0.out
    have za_9:=cell_of_row _ w.heap.size 9 _ _ _ AB0.out
    have za_10:=cell_of_row _ w.heap.size 10 _ _ _ AB0.out
    have za_11:=cell_of_row _ w.heap.size 11 _ _ _ AB0.out
    have za_12:=cell_of_row _ w.heap.size 12 _ _ _ AB0.out
    have za_13:=cell_of_row _ w.heap.size 13 _ _ _ AB0.out
    simp only [List.getElem?_toArray,List.getElem?_cons_zero,List.getElem?_cons_succ] at za_0 za_1 za_2 za_3 za_4 za_5 za_6 za_7 za_8 za_9 za_10 za_11 za_12 za_13
    go_wp2_with fail
    clear za_0 za_1 za_2 za_3 za_4 za_5 za_6 za_7 za_8 za_9 za_10 za_11 za_12 za_13
    refine HC.out.mono ?_
    rintro e w3 ⟨eY0,rfl,hr,hb⟩
    clear HC
    have szw3:=hb.size
    replace F0:=Lib.hid (Qd.below F0.out hb (by omega))
    replace F2:=Lib.hid (F2.out.below hb (by omega))
    replace F3:=Lib.hid (F3.out.below hb (by omega))
    replace AB0:=Lib.hid ((hb.block w.heap.size (by omega)).trans AB0.out)
    replace T:=Lib.hid (T.out.trans (hb.mono (by omega)))
    clear hb
    have hY0:=Qd.under hr
    obtain ⟨aY0_0,nY0_0,cY0_0,aY0_1,nY0_1,cY0_1,aY0_2,nY0_2,cY0_2,aY0_3,nY0_3,cY0_3,aY0_4,nY0_4,cY0_4,aY0_5,nY0_5,cY0_5,aY0_6,nY0_6,cY0_6,aY0_7,nY0_7,cY0_7,aY0_8,nY0_8,cY0_8,rfl,-⟩:=Qn.1 hY0
    have Y0:=Lib.hid hY0
    clear hr hY0
    have HC:=Lib.hid (J9 _ _ a2 n2 c2 x2 F2.out (by omega) (by rw [U2.out];omega))
    go_wp2_with fail
    refine HC.out.mono ?_
    rintro e w4 ⟨rfl,hr,hb⟩
    clear HC
    have szw4:=hb.size
    replace F0:=Lib.hid (Qd.below F0.out hb (by omega))
    replace F2:=Lib.hid (F2.out.below hb (by omega))
    replace F3:=Lib.hid (F3.out.below hb (by omega))
    replace AB0:=Lib.hid ((hb.block w.heap.size (by omega)).trans AB0.out)
    replace Y0:=Lib.hid (Qd.below Y0.out hb (by omega))
    replace T:=Lib.hid (T.out.trans (hb.mono (by omega)))
    clear hb
    have Y2:=Lib.hid hr.under
    clear hr
    have HC:=Lib.hid (J9 _ _ a3 n3 c3 x3 F3.out (by omega) (by rw [U3.out];omega))
    go_wp2_with fail
    refine HC.out.mono ?_
    rintro e w5 ⟨rfl,hr,hb⟩
    clear HC
    have szw5:=hb.size
    replace F0:=Lib.hid (Qd.below F0.out hb (by omega))
    replace F2:=Lib.hid (F2.out.below hb (by omega))
    replace F3:=Lib.hid (F3.out.below hb (by omega))
    replace AB0:=Lib.hid ((hb.block w.heap.size (by omega)).trans AB0.out)
    replace Y0:=Lib.hid (Qd.below Y0.out hb (by omega))
    replace Y2:=Lib.hid (Y2.out.below hb (by omega))
    replace T:=Lib.hid (T.out.trans (hb.mono (by omega)))
    clear hb
    have Y3:=Lib.hid hr.under
    clear hr
    have hc:=Qgk _ _ x0 (Qd.le Y0.out (by omega)) (by rw [U0.out];omega) a1 _ n2 n2 x2 ((Y2.out.le (by omega)).ints (by omega)) (by omega) _ n3 n3 x3 ((Y3.out.le (by omega)).ints (by omega)) (by omega)
    rw [HV.out] at hc
    have HC:=Lib.hid hc
    clear hc
    go_wp2_with fail
    refine HC.out.mono ?_
    rintro e w6 ⟨eW,rfl,hr,hb⟩
    clear HC
    have szw6:=hb.size
    replace F0:=Lib.hid (Qd.below F0.out hb (by omega))
    replace F2:=Lib.hid (F2.out.below hb (by omega))
    replace F3:=Lib.hid (F3.out.below hb (by omega))
    replace AB0:=Lib.hid ((hb.block w.heap.size (by omega)).trans AB0.out)
    replace T:=Lib.hid (T.out.trans (hb.mono (by omega)))
    clear hb
    obtain ⟨aW_0,nW_0,cW_0,aW_1,nW_1,cW_1,aW_2,nW_2,cW_2,aW_3,nW_3,cW_3,aW_4,nW_4,cW_4,aW_5,nW_5,cW_5,aW_6,nW_6,cW_6,aW_7,nW_7,cW_7,aW_8,nW_8,cW_8,rfl,-⟩:=Qn.1 hr
    have W:=Lib.hid (Qd.under hr)
    clear hr
    clear Y0 Y2 Y3
    have hb:=(Below.refl w6.heap.size w6).alloc (Nat.le_refl _) (.cells #[.int .i64 v.1,.slice aW_0 nW_0 cW_0,.slice aW_1 nW_1 cW_1,.bool v.2.2.2.1,.bool v.2.2.2.2.1,.slice aW_2 nW_2 cW_2,.slice aW_3 nW_3 cW_3,.slice aW_4 nW_4 cW_4,.slice aW_5 nW_5 cW_5,.slice aW_6 nW_6 cW_6,.slice aW_7 nW_7 cW_7,.slice aW_8 nW_8 cW_8,.int .i64 v.2.2.2.2.2.2.2.2.2.2.2.2.1,.bool v.2.2.2.2.2.2.2.2.2.2.2.2.2] 32 (0,0))
    have hk:=heap_alloc_new w6 (.cells #[.int .i64 v.1,.slice aW_0 nW_0 cW_0,.slice aW_1 nW_1 cW_1,.bool v.2.2.2.1,.bool v.2.2.2.2.1,.slice aW_2 nW_2 cW_2,.slice aW_3 nW_3 cW_3,.slice aW_4 nW_4 cW_4,.slice aW_5 nW_5 cW_5,.slice aW_6 nW_6 cW_6,.slice aW_7 nW_7 cW_7,.slice aW_8 nW_8 cW_8,.int .i64 v.2.2.2.2.2.2.2.2.2.2.2.2.1,.bool v.2.2.2.2.2.2.2.2.2.2.2.2.2] 32 (0,0))
    have szw7:w6.heap.size<(w6.alloc (.cells #[.int .i64 v.1,.slice aW_0 nW_0 cW_0,.slice aW_1 nW_1 cW_1,.bool v.2.2.2.1,.bool v.2.2.2.2.1,.slice aW_2 nW_2 cW_2,.slice aW_3 nW_3 cW_3,.slice aW_4 nW_4 cW_4,.slice aW_5 nW_5 cW_5,.slice aW_6 nW_6 cW_6,.slice aW_7 nW_7 cW_7,.slice aW_8 nW_8 cW_8,.int .i64 v.2.2.2.2.2.2.2.2.2.2.2.2.1,.bool v.2.2.2.2.2.2.2.2.2.2.2.2.2] 32 (0,0))).heap.size:=by simp
    obtain ⟨w7,hww7⟩ : ∃ W,w6.alloc (.cells #[.int .i64 v.1,.slice aW_0 nW_0 cW_0,.slice aW_1 nW_1 cW_1,.bool v.2.2.2.1,.bool v.2.2.2.2.1,.slice aW_2 nW_2 cW_2,.slice aW_3 nW_3 cW_3,.slice aW_4 nW_4 cW_4,.slice aW_5 nW_5 cW_5,.slice aW_6 nW_6 cW_6,.slice aW_7 nW_7 cW_7,.slice aW_8 nW_8 cW_8,.int .i64 v.2.2.2.2.2.2.2.2.2.2.2.2.1,.bool v.2.2.2.2.2.2.2.2.2.2.2.2.2] 32 (0,0))=W:=⟨_,rfl⟩
    rw [hww7] at hb hk szw7
    replace F0:=Lib.hid (Qd.below F0.out hb (by omega))
    replace F2:=Lib.hid (F2.out.below hb (by omega))
    replace F3:=Lib.hid (F3.out.below hb (by omega))
    replace AB0:=Lib.hid ((hb.block w.heap.size (by omega)).trans AB0.out)
    replace W:=Lib.hid (Qd.below W.out hb (by omega))
    replace T:=Lib.hid (T.out.trans (hb.mono (by omega)))
    have BW:=Lib.hid hk
    clear hb hk
    have HC:=Lib.hid (Qol _ _ _ x0 F0.out (by omega) (by rw [U0.out];omega))
    have za_0:=cell_of_row _ w.heap.size 0 _ _ _ AB0.out
    have za_1:=cell_of_row _ w.heap.size 1 _ _ _ AB0.out
    have za_2:=cell_of_row _ w.heap.size 2 _ _ _ AB0.out
    have za_3:=cell_of_row _ w.heap.size 3 _ _ _ AB0.out
    have za_4:=cell_of_row _ w.heap.size 4 _ _ _ AB0.out
    have za_5:=cell_of_row _ w.heap.size 5 _ _ _ AB0.out
    have za_6:=cell_of_row _ w.heap.size 6 _ _ _ AB0.out
    have za_7:=cell_of_row _ w.heap.size 7 _ _ _ AB0.out
    have za_8:=cell_of_row _ w.heap.size 8 _ _ _ AB0.out
    have za_9:=cell_of_row _ w.heap.size 9 _ _ _ AB0.out
    have za_10:=cell_of_row _ w.heap.size 10 _ _ _ AB0.out
    have za_11:=cell_of_row _ w.heap.size 11 _ _ _ AB0.out
    have za_12:=cell_of_row _ w.heap.size 12 _ _ _ AB0.out
    have za_13:=cell_of_row _ w.heap.size 13 _ _ _ AB0.out
    simp only [List.getElem?_toArray,List.getElem?_cons_zero,List.getElem?_cons_succ] at za_0 za_1 za_2 za_3 za_4 za_5 za_6 za_7 za_8 za_9 za_10 za_11 za_12 za_13
    go_wp2_with fail
    clear hww7
    clear za_0 za_1 za_2 za_3 za_4 za_5 za_6 za_7 za_8 za_9 za_10 za_11 za_12 za_13
    refine HC.out.mono ?_
    rintro e w8 ⟨eX0,rfl,hr,hb⟩
    clear HC
    have szw8:=hb.size
    replace F0:=Lib.hid (Qd.below F0.out hb (by omega))
    replace F2:=Lib.hid (F2.out.below hb (by omega))
    replace F3:=Lib.hid (F3.out.below hb (by omega))
    replace AB0:=Lib.hid ((hb.block w.heap.size (by omega)).trans AB0.out)
    replace W:=Lib.hid (Qd.below W.out hb (by omega))
    replace BW:=Lib.hid ((hb.block w6.heap.size (by omega)).trans BW.out)
    replace T:=Lib.hid (T.out.trans (hb.mono (by omega)))
    clear hb
    obtain ⟨aX0_0,nX0_0,cX0_0,aX0_1,nX0_1,cX0_1,aX0_2,nX0_2,cX0_2,aX0_3,nX0_3,cX0_3,aX0_4,nX0_4,cX0_4,aX0_5,nX0_5,cX0_5,aX0_6,nX0_6,cX0_6,aX0_7,nX0_7,cX0_7,aX0_8,nX0_8,cX0_8,Gx0,Gx1,Gx2,Gx3,Gx4,Gx5,Gx6,Gx7,Gx8,rfl,-⟩:=Jp.1 hr
    have X0:=Lib.hid hr
    clear hr
    have hb:=(Below.refl w8.heap.size w8).alloc (Nat.le_refl _) (.cells #[.int .i64 x0.1,.slice aX0_0 nX0_0 cX0_0,.slice aX0_1 nX0_1 cX0_1,.bool x0.2.2.2.1,.bool x0.2.2.2.2.1,.slice aX0_2 nX0_2 cX0_2,.slice aX0_3 nX0_3 cX0_3,.slice aX0_4 nX0_4 cX0_4,.slice aX0_5 nX0_5 cX0_5,.slice aX0_6 nX0_6 cX0_6,.slice aX0_7 nX0_7 cX0_7,.slice aX0_8 nX0_8 cX0_8,.int .i64 x0.2.2.2.2.2.2.2.2.2.2.2.2.1,.bool x0.2.2.2.2.2.2.2.2.2.2.2.2.2] 32 (0,0))
    have hk:=heap_alloc_new w8 (.cells #[.int .i64 x0.1,.slice aX0_0 nX0_0 cX0_0,.slice aX0_1 nX0_1 cX0_1,.bool x0.2.2.2.1,.bool x0.2.2.2.2.1,.slice aX0_2 nX0_2 cX0_2,.slice aX0_3 nX0_3 cX0_3,.slice aX0_4 nX0_4 cX0_4,.slice aX0_5 nX0_5 cX0_5,.slice aX0_6 nX0_6 cX0_6,.slice aX0_7 nX0_7 cX0_7,.slice aX0_8 nX0_8 cX0_8,.int .i64 x0.2.2.2.2.2.2.2.2.2.2.2.2.1,.bool x0.2.2.2.2.2.2.2.2.2.2.2.2.2] 32 (0,0))
    have szw9:w8.heap.size<(w8.alloc (.cells #[.int .i64 x0.1,.slice aX0_0 nX0_0 cX0_0,.slice aX0_1 nX0_1 cX0_1,.bool x0.2.2.2.1,.bool x0.2.2.2.2.1,.slice aX0_2 nX0_2 cX0_2,.slice aX0_3 nX0_3 cX0_3,.slice aX0_4 nX0_4 cX0_4,.slice aX0_5 nX0_5 cX0_5,.slice aX0_6 nX0_6 cX0_6,.slice aX0_7 nX0_7 cX0_7,.slice aX0_8 nX0_8 cX0_8,.int .i64 x0.2.2.2.2.2.2.2.2.2.2.2.2.1,.bool x0.2.2.2.2.2.2.2.2.2.2.2.2.2] 32 (0,0))).heap.size:=by simp
    obtain ⟨w9,hww9⟩ : ∃ W,w8.alloc (.cells #[.int .i64 x0.1,.slice aX0_0 nX0_0 cX0_0,.slice aX0_1 nX0_1 cX0_1,.bool x0.2.2.2.1,.bool x0.2.2.2.2.1,.slice aX0_2 nX0_2 cX0_2,.slice aX0_3 nX0_3 cX0_3,.slice aX0_4 nX0_4 cX0_4,.slice aX0_5 nX0_5 cX0_5,.slice aX0_6 nX0_6 cX0_6,.slice aX0_7 nX0_7 cX0_7,.slice aX0_8 nX0_8 cX0_8,.int .i64 x0.2.2.2.2.2.2.2.2.2.2.2.2.1,.bool x0.2.2.2.2.2.2.2.2.2.2.2.2.2] 32 (0,0))=W:=⟨_,rfl⟩
    rw [hww9] at hb hk szw9
    replace F0:=Lib.hid (Qd.below F0.out hb (by omega))
    replace F2:=Lib.hid (F2.out.below hb (by omega))
    replace F3:=Lib.hid (F3.out.below hb (by omega))
    replace AB0:=Lib.hid ((hb.block w.heap.size (by omega)).trans AB0.out)
    replace W:=Lib.hid (Qd.below W.out hb (by omega))
    replace BW:=Lib.hid ((hb.block w6.heap.size (by omega)).trans BW.out)
    replace X0:=Lib.hid (Qg.owns_keep X0.out (.of_below hb fun b o f=>by have:=f.2;omega))
    replace T:=Lib.hid (T.out.trans (hb.mono (by omega)))
    have BX0:=Lib.hid hk
    clear hb hk
    have HC:=Lib.hid (Qbf _ _ a2 n2 c2 x2 F2.out (by omega) (by rw [U2.out];omega))
    go_wp2_with fail
    clear hww9
    refine HC.out.mono ?_
    rintro e w10 ⟨rfl,hr,hb⟩
    clear HC
    have szw10:=hb.size
    replace F0:=Lib.hid (Qd.below F0.out hb (by omega))
    replace F2:=Lib.hid (F2.out.below hb (by omega))
    replace F3:=Lib.hid (F3.out.below hb (by omega))
    replace AB0:=Lib.hid ((hb.block w.heap.size (by omega)).trans AB0.out)
    replace W:=Lib.hid (Qd.below W.out hb (by omega))
    replace BW:=Lib.hid ((hb.block w6.heap.size (by omega)).trans BW.out)
    replace X0:=Lib.hid (Qg.owns_keep X0.out (.of_below hb fun b o f=>by have:=f.2;omega))
    replace BX0:=Lib.hid ((hb.block w8.heap.size (by omega)).trans BX0.out)
    replace T:=Lib.hid (T.out.trans (hb.mono (by omega)))
    clear hb
    have X2:=Lib.hid hr
    clear hr
    have HC:=Lib.hid (Qbf _ _ a3 n3 c3 x3 F3.out (by omega) (by rw [U3.out];omega))
    go_wp2_with fail
    refine HC.out.mono ?_
    rintro e w11 ⟨rfl,hr,hb⟩
    clear HC
    have szw11:=hb.size
    replace F0:=Lib.hid (Qd.below F0.out hb (by omega))
    replace F2:=Lib.hid (F2.out.below hb (by omega))
    replace F3:=Lib.hid (F3.out.below hb (by omega))
    replace AB0:=Lib.hid ((hb.block w.heap.size (by omega)).trans AB0.out)
    replace W:=Lib.hid (Qd.below W.out hb (by omega))
    replace BW:=Lib.hid ((hb.block w6.heap.size (by omega)).trans BW.out)
    replace X0:=Lib.hid (Qg.owns_keep X0.out (.of_below hb fun b o f=>by have:=f.2;omega))
    replace BX0:=Lib.hid ((hb.block w8.heap.size (by omega)).trans BX0.out)
    replace X2:=Lib.hid (X2.out.keep (.of_below hb fun b o f=>by have:=f.2;omega))
    replace T:=Lib.hid (T.out.trans (hb.mono (by omega)))
    clear hb
    have X3:=Lib.hid hr
    clear hr
    have hc:=Qda _ _ x0 (Qg.owns_reads X0.out fun b o f=>by have:=f.2;exact Nat.lt_of_lt_of_le this (by omega)) (by rw [U0.out];omega) HWD.out a1 H64.out _ n2 n2 x2 ((X2.out.listAt (I:=Qf _) (fun b o f=>by have:=f.2;exact Nat.lt_of_lt_of_le this (by omega)) (by decide)).ints (by omega)) (by omega) _ n3 n3 x3 ((X3.out.listAt (I:=Qf _) (fun b o f=>by have:=f.2;exact Nat.lt_of_lt_of_le this (by omega)) (by decide)).ints (by omega)) (by omega) (HG.out.below hlt T.out)
    rw [HV.out] at hc
    have HC:=Lib.hid hc
    clear hc
    have zx0_0:=cell_of_row _ w8.heap.size 0 _ _ _ BX0.out
    have zx0_1:=cell_of_row _ w8.heap.size 1 _ _ _ BX0.out
    have zx0_2:=cell_of_row _ w8.heap.size 2 _ _ _ BX0.out
    have zx0_3:=cell_of_row _ w8.heap.size 3 _ _ _ BX0.out
    have zx0_4:=cell_of_row _ w8.heap.size 4 _ _ _ BX0.out
    have zx0_5:=cell_of_row _ w8.heap.size 5 _ _ _ BX0.out
    have zx0_6:=cell_of_row _ w8.heap.size 6 _ _ _ BX0.out
    have zx0_7:=cell_of_row _ w8.heap.size 7 _ _ _ BX0.out
    have zx0_8:=cell_of_row _ w8.heap.size 8 _ _ _ BX0.out
    have zx0_9:=cell_of_row _ w8.heap.size 9 _ _ _ BX0.out
    have zx0_10:=cell_of_row _ w8.heap.size 10 _ _ _ BX0.out
    have zx0_11:=cell_of_row _ w8.heap.size 11 _ _ _ BX0.out
    have zx0_12:=cell_of_row _ w8.heap.size 12 _ _ _ BX0.out
    have zx0_13:=cell_of_row _ w8.heap.size 13 _ _ _ BX0.out
    simp only [List.getElem?_toArray,List.getElem?_cons_zero,List.getElem?_cons_succ] at zx0_0 zx0_1 zx0_2 zx0_3 zx0_4 zx0_5 zx0_6 zx0_7 zx0_8 zx0_9 zx0_10 zx0_11 zx0_12 zx0_13
    go_wp2_with fail
    clear zx0_0 zx0_1 zx0_2 zx0_3 zx0_4 zx0_5 zx0_6 zx0_7 zx0_8 zx0_9 zx0_10 zx0_11 zx0_12 zx0_13
    refine HC.out.mono ?_
    rintro e w12 ⟨eG,rfl,hr,hb⟩
    clear HC
    have szw12:=hb.size
    replace F0:=Lib.hid (Qd.below F0.out hb (by omega))
    replace F2:=Lib.hid (F2.out.below hb (by omega))
    replace F3:=Lib.hid (F3.out.below hb (by omega))
    replace AB0:=Lib.hid ((hb.block w.heap.size (by omega)).trans AB0.out)
    replace W:=Lib.hid (Qd.below W.out hb (by omega))
    replace BW:=Lib.hid ((hb.block w6.heap.size (by omega)).trans BW.out)
    replace X0:=Lib.hid (Qg.owns_keep X0.out (.of_below hb fun b o f=>by have:=f.2;omega))
    replace BX0:=Lib.hid ((hb.block w8.heap.size (by omega)).trans BX0.out)
    replace X2:=Lib.hid (X2.out.keep (.of_below hb fun b o f=>by have:=f.2;omega))
    replace X3:=Lib.hid (X3.out.keep (.of_below hb fun b o f=>by have:=f.2;omega))
    replace T:=Lib.hid (T.out.trans (hb.mono (by omega)))
    clear hb
    obtain ⟨aG_0,nG_0,cG_0,aG_1,nG_1,cG_1,aG_2,nG_2,cG_2,aG_3,nG_3,cG_3,aG_4,nG_4,cG_4,aG_5,nG_5,cG_5,aG_6,nG_6,cG_6,aG_7,nG_7,cG_7,aG_8,nG_8,cG_8,Gx0,Gx1,Gx2,Gx3,Gx4,Gx5,Gx6,Gx7,Gx8,rfl,-⟩:=Jp.1 hr
    have G:=Lib.hid hr
    clear hr
    have hb:=(Below.refl w12.heap.size w12).alloc (Nat.le_refl _) (.cells #[.int .i64 v.1,.slice aG_0 nG_0 cG_0,.slice aG_1 nG_1 cG_1,.bool v.2.2.2.1,.bool v.2.2.2.2.1,.slice aG_2 nG_2 cG_2,.slice aG_3 nG_3 cG_3,.slice aG_4 nG_4 cG_4,.slice aG_5 nG_5 cG_5,.slice aG_6 nG_6 cG_6,.slice aG_7 nG_7 cG_7,.slice aG_8 nG_8 cG_8,.int .i64 v.2.2.2.2.2.2.2.2.2.2.2.2.1,.bool v.2.2.2.2.2.2.2.2.2.2.2.2.2] 32 (0,0))
    have hk:=heap_alloc_new w12 (.cells #[.int .i64 v.1,.slice aG_0 nG_0 cG_0,.slice aG_1 nG_1 cG_1,.bool v.2.2.2.1,.bool v.2.2.2.2.1,.slice aG_2 nG_2 cG_2,.slice aG_3 nG_3 cG_3,.slice aG_4 nG_4 cG_4,.slice aG_5 nG_5 cG_5,.slice aG_6 nG_6 cG_6,.slice aG_7 nG_7 cG_7,.slice aG_8 nG_8 cG_8,.int .i64 v.2.2.2.2.2.2.2.2.2.2.2.2.1,.bool v.2.2.2.2.2.2.2.2.2.2.2.2.2] 32 (0,0))
    have szw13:w12.heap.size<(w12.alloc (.cells #[.int .i64 v.1,.slice aG_0 nG_0 cG_0,.slice aG_1 nG_1 cG_1,.bool v.2.2.2.1,.bool v.2.2.2.2.1,.slice aG_2 nG_2 cG_2,.slice aG_3 nG_3 cG_3,.slice aG_4 nG_4 cG_4,.slice aG_5 nG_5 cG_5,.slice aG_6 nG_6 cG_6,.slice aG_7 nG_7 cG_7,.slice aG_8 nG_8 cG_8,.int .i64 v.2.2.2.2.2.2.2.2.2.2.2.2.1,.bool v.2.2.2.2.2.2.2.2.2.2.2.2.2] 32 (0,0))).heap.size:=by simp
    obtain ⟨w13,hww13⟩ : ∃ W,w12.alloc (.cells #[.int .i64 v.1,.slice aG_0 nG_0 cG_0,.slice aG_1 nG_1 cG_1,.bool v.2.2.2.1,.bool v.2.2.2.2.1,.slice aG_2 nG_2 cG_2,.slice aG_3 nG_3 cG_3,.slice aG_4 nG_4 cG_4,.slice aG_5 nG_5 cG_5,.slice aG_6 nG_6 cG_6,.slice aG_7 nG_7 cG_7,.slice aG_8 nG_8 cG_8,.int .i64 v.2.2.2.2.2.2.2.2.2.2.2.2.1,.bool v.2.2.2.2.2.2.2.2.2.2.2.2.2] 32 (0,0))=W:=⟨_,rfl⟩
    rw [hww13] at hb hk szw13
    replace F0:=Lib.hid (Qd.below F0.out hb (by omega))
    replace F2:=Lib.hid (F2.out.below hb (by omega))
    replace F3:=Lib.hid (F3.out.below hb (by omega))
    replace AB0:=Lib.hid ((hb.block w.heap.size (by omega)).trans AB0.out)
    replace W:=Lib.hid (Qd.below W.out hb (by omega))
    replace BW:=Lib.hid ((hb.block w6.heap.size (by omega)).trans BW.out)
    replace X0:=Lib.hid (Qg.owns_keep X0.out (.of_below hb fun b o f=>by have:=f.2;omega))
    replace BX0:=Lib.hid ((hb.block w8.heap.size (by omega)).trans BX0.out)
    replace X2:=Lib.hid (X2.out.keep (.of_below hb fun b o f=>by have:=f.2;omega))
    replace X3:=Lib.hid (X3.out.keep (.of_below hb fun b o f=>by have:=f.2;omega))
    replace G:=Lib.hid (Qg.owns_keep G.out (.of_below hb fun b o f=>by have:=f.2;omega))
    replace T:=Lib.hid (T.out.trans (hb.mono (by omega)))
    have BG:=Lib.hid hk
    clear hb hk
    have HC:=Lib.hid (Qdn _ _ _ _ _ v (Qg.owns_reads (I:=Qf w12.heap.size) G.out fun b o f=>f.2) W.out (by omega) (by omega) vb)
    have zg_0:=cell_of_row _ w12.heap.size 0 _ _ _ BG.out
    have zg_1:=cell_of_row _ w12.heap.size 1 _ _ _ BG.out
    have zg_2:=cell_of_row _ w12.heap.size 2 _ _ _ BG.out
    have zg_3:=cell_of_row _ w12.heap.size 3 _ _ _ BG.out
    have zg_4:=cell_of_row _ w12.heap.size 4 _ _ _ BG.out
    have zg_5:=cell_of_row _ w12.heap.size 5 _ _ _ BG.out
    have zg_6:=cell_of_row _ w12.heap.size 6 _ _ _ BG.out
    have zg_7:=cell_of_row _ w12.heap.size 7 _ _ _ BG.out
    have zg_8:=cell_of_row _ w12.heap.size 8 _ _ _ BG.out
    have zg_9:=cell_of_row _ w12.heap.size 9 _ _ _ BG.out
    have zg_10:=cell_of_row _ w12.heap.size 10 _ _ _ BG.out
    have zg_11:=cell_of_row _ w12.heap.size 11 _ _ _ BG.out
    have zg_12:=cell_of_row _ w12.heap.size 12 _ _ _ BG.out
    have zg_13:=cell_of_row _ w12.heap.size 13 _ _ _ BG.out
    simp only [List.getElem?_toArray,List.getElem?_cons_zero,List.getElem?_cons_succ] at zg_0 zg_1 zg_2 zg_3 zg_4 zg_5 zg_6 zg_7 zg_8 zg_9 zg_10 zg_11 zg_12 zg_13
    have zw_0:=cell_of_row _ w6.heap.size 0 _ _ _ BW.out
    have zw_1:=cell_of_row _ w6.heap.size 1 _ _ _ BW.out
    have zw_2:=cell_of_row _ w6.heap.size 2 _ _ _ BW.out
    have zw_3:=cell_of_row _ w6.heap.size 3 _ _ _ BW.out
    have zw_4:=cell_of_row _ w6.heap.size 4 _ _ _ BW.out
    have zw_5:=cell_of_row _ w6.heap.size 5 _ _ _ BW.out
    have zw_6:=cell_of_row _ w6.heap.size 6 _ _ _ BW.out
    have zw_7:=cell_of_row _ w6.heap.size 7 _ _ _ BW.out
    have zw_8:=cell_of_row _ w6.heap.size 8 _ _ _ BW.out
    have zw_9:=cell_of_row _ w6.heap.size 9 _ _ _ BW.out
    have zw_10:=cell_of_row _ w6.heap.size 10 _ _ _ BW.out
    have zw_11:=cell_of_row _ w6.heap.size 11 _ _ _ BW.out
    have zw_12:=cell_of_row _ w6.heap.size 12 _ _ _ BW.out
    have zw_13:=cell_of_row _ w6.heap.size 13 _ _ _ BW.out
    simp only [List.getElem?_toArray,List.getElem?_cons_zero,List.getElem?_cons_succ] at zw_0 zw_1 zw_2 zw_3 zw_4 zw_5 zw_6 zw_7 zw_8 zw_9 zw_10 zw_11 zw_12 zw_13
    go_wp2_with fail
    clear hww13
    clear zg_0 zg_1 zg_2 zg_3 zg_4 zg_5 zg_6 zg_7 zg_8 zg_9 zg_10 zg_11 zg_12 zg_13
    clear zw_0 zw_1 zw_2 zw_3 zw_4 zw_5 zw_6 zw_7 zw_8 zw_9 zw_10 zw_11 zw_12 zw_13
    refine HC.out.mono ?_
    rintro e w14 ⟨rfl,hb⟩
    clear HC
    have szw14:=hb.size
    replace F0:=Lib.hid (Qd.below F0.out hb (by omega))
    replace F2:=Lib.hid (F2.out.below hb (by omega))
    replace F3:=Lib.hid (F3.out.below hb (by omega))
    replace AB0:=Lib.hid ((hb.block w.heap.size (by omega)).trans AB0.out)
    replace W:=Lib.hid (Qd.below W.out hb (by omega))
    replace BW:=Lib.hid ((hb.block w6.heap.size (by omega)).trans BW.out)
    replace X0:=Lib.hid (Qg.owns_keep X0.out (.of_below hb fun b o f=>by have:=f.2;omega))
    replace BX0:=Lib.hid ((hb.block w8.heap.size (by omega)).trans BX0.out)
    replace X2:=Lib.hid (X2.out.keep (.of_below hb fun b o f=>by have:=f.2;omega))
    replace X3:=Lib.hid (X3.out.keep (.of_below hb fun b o f=>by have:=f.2;omega))
    replace G:=Lib.hid (Qg.owns_keep G.out (.of_below hb fun b o f=>by have:=f.2;omega))
    replace BG:=Lib.hid ((hb.block w12.heap.size (by omega)).trans BG.out)
    replace T:=Lib.hid (T.out.trans (hb.mono (by omega)))
    clear hb
    have zx_0:=cell_of_row _ w8.heap.size 0 _ _ _ BX0.out
    have zx_1:=cell_of_row _ w8.heap.size 1 _ _ _ BX0.out
    have zx_2:=cell_of_row _ w8.heap.size 2 _ _ _ BX0.out
    have zx_3:=cell_of_row _ w8.heap.size 3 _ _ _ BX0.out
    have zx_4:=cell_of_row _ w8.heap.size 4 _ _ _ BX0.out
    have zx_5:=cell_of_row _ w8.heap.size 5 _ _ _ BX0.out
    have zx_6:=cell_of_row _ w8.heap.size 6 _ _ _ BX0.out
    have zx_7:=cell_of_row _ w8.heap.size 7 _ _ _ BX0.out
    have zx_8:=cell_of_row _ w8.heap.size 8 _ _ _ BX0.out
    have zx_9:=cell_of_row _ w8.heap.size 9 _ _ _ BX0.out
    have zx_10:=cell_of_row _ w8.heap.size 10 _ _ _ BX0.out
    have zx_11:=cell_of_row _ w8.heap.size 11 _ _ _ BX0.out
    have zx_12:=cell_of_row _ w8.heap.size 12 _ _ _ BX0.out
    have zx_13:=cell_of_row _ w8.heap.size 13 _ _ _ BX0.out
    simp only [List.getElem?_toArray,List.getElem?_cons_zero,List.getElem?_cons_succ] at zx_0 zx_1 zx_2 zx_3 zx_4 zx_5 zx_6 zx_7 zx_8 zx_9 zx_10 zx_11 zx_12 zx_13
    have za_0:=cell_of_row _ w.heap.size 0 _ _ _ AB0.out
    have za_1:=cell_of_row _ w.heap.size 1 _ _ _ AB0.out
    have za_2:=cell_of_row _ w.heap.size 2 _ _ _ AB0.out
    have za_3:=cell_of_row _ w.heap.size 3 _ _ _ AB0.out
    have za_4:=cell_of_row _ w.heap.size 4 _ _ _ AB0.out
    have za_5:=cell_of_row _ w.heap.size 5 _ _ _ AB0.out
    have za_6:=cell_of_row _ w.heap.size 6 _ _ _ AB0.out
    have za_7:=cell_of_row _ w.heap.size 7 _ _ _ AB0.out
    have za_8:=cell_of_row _ w.heap.size 8 _ _ _ AB0.out
    have za_9:=cell_of_row _ w.heap.size 9 _ _ _ AB0.out
    have za_10:=cell_of_row _ w.heap.size 10 _ _ _ AB0.out
    have za_11:=cell_of_row _ w.heap.size 11 _ _ _ AB0.out
    have za_12:=cell_of_row _ w.heap.size 12 _ _ _ AB0.out
    have za_13:=cell_of_row _ w.heap.size 13 _ _ _ AB0.out
    simp only [List.getElem?_toArray,List.getElem?_cons_zero,List.getElem?_cons_succ] at za_0 za_1 za_2 za_3 za_4 za_5 za_6 za_7 za_8 za_9 za_10 za_11 za_12 za_13
    go_upto_region 16 with fail
    go_cut [57] (fun t wx=>t = .bool false/\Below w14.heap.size w14 wx)
    case first=>as_aux_lemma =>
     have hdr:Below w14.heap.size w14 w14.drew:=(Below.refl _ _).drew
     have FD:=Lib.hid (Qd.below F0.out hdr (by omega))
     have XD:=Lib.hid (Qd.below (Qg.owns_reads (I:=Qf w8.heap.size) X0.out fun b o f=>f.2) hdr (by omega))
     have DR:=Lib.hid hdr
     have szd:w14.heap.size<=w14.drew.heap.size:=hdr.size
     have XBD:Hid (w14.drew.heap[w8.heap.size]? = _):=Lib.hid BX0.out
     clear hdr
     have HC1:=Lib.hid (Qfb w14.drew _ _ x0 FD.out (by omega) (by rw [U0.out];omega))
     have HC2:=Lib.hid fun (w1:World) (es:List Value) (hb:Below w14.drew.heap.size w14.drew w1) (hr:Qd.reads (From w14.drew.heap.size w1.heap.size) w1 es x0)=>Qdn w1 _ _ _ es x0 (Qd.below XD.out hb (by omega)) (Qd.under hr) (by have:=hb.size;omega) (Nat.le_refl _) (Z8 (by rw [U0.out];omega))
     go_region_law (first
      | (go_simp;go_at_call 22;(with_reducible refine HC1.out.mono ?_);rintro e wt ⟨eg,rfl,hr,hb⟩;have hq:=HC2.out wt eg hb hr;have zz_0:=cell_of_row _ w8.heap.size 0 _ _ _ ((hb.block w8.heap.size (by omega)).trans XBD.out);have zz_1:=cell_of_row _ w8.heap.size 1 _ _ _ ((hb.block w8.heap.size (by omega)).trans XBD.out);have zz_2:=cell_of_row _ w8.heap.size 2 _ _ _ ((hb.block w8.heap.size (by omega)).trans XBD.out);have zz_3:=cell_of_row _ w8.heap.size 3 _ _ _ ((hb.block w8.heap.size (by omega)).trans XBD.out);have zz_4:=cell_of_row _ w8.heap.size 4 _ _ _ ((hb.block w8.heap.size (by omega)).trans XBD.out);have zz_5:=cell_of_row _ w8.heap.size 5 _ _ _ ((hb.block w8.heap.size (by omega)).trans XBD.out);have zz_6:=cell_of_row _ w8.heap.size 6 _ _ _ ((hb.block w8.heap.size (by omega)).trans XBD.out);have zz_7:=cell_of_row _ w8.heap.size 7 _ _ _ ((hb.block w8.heap.size (by omega)).trans XBD.out);have zz_8:=cell_of_row _ w8.heap.size 8 _ _ _ ((hb.block w8.heap.size (by omega)).trans XBD.out);have zz_9:=cell_of_row _ w8.heap.size 9 _ _ _ ((hb.block w8.heap.size (by omega)).trans XBD.out);have zz_10:=cell_of_row _ w8.heap.size 10 _ _ _ ((hb.block w8.heap.size (by omega)).trans XBD.out);have zz_11:=cell_of_row _ w8.heap.size 11 _ _ _ ((hb.block w8.heap.size (by omega)).trans XBD.out);have zz_12:=cell_of_row _ w8.heap.size 12 _ _ _ ((hb.block w8.heap.size (by omega)).trans XBD.out);have zz_13:=cell_of_row _ w8.heap.size 13 _ _ _ ((hb.block w8.heap.size (by omega)).trans XBD.out);simp only [List.getElem?_toArray,List.getElem?_cons_zero,List.getElem?_cons_succ] at zz_0 zz_1 zz_2 zz_3 zz_4 zz_5 zz_6 zz_7 zz_8 zz_9 zz_10 zz_11 zz_12 zz_13;obtain ⟨ag_0,ng_0,cg_0,ag_1,ng_1,cg_1,ag_2,ng_2,cg_2,ag_3,ng_3,cg_3,ag_4,ng_4,cg_4,ag_5,ng_5,cg_5,ag_6,ng_6,cg_6,ag_7,ng_7,cg_7,ag_8,ng_8,cg_8,rfl,-⟩:=Qn.1 hr;have HQ:=Lib.hid hq;have HBT:=Lib.hid hb;have szt:=hb.size;clear hb hr hq)
      | (go_simp;go_at_call 24;(with_reducible refine HQ.out.mono ?_);rintro e wq ⟨rfl,hb⟩;have BQ:=Lib.hid (DR.out.trans ((HBT.out.mono szd).trans (hb.mono (by omega))));clear hb))
     all_goals
      go_wp2_with fail
      go_meet
      case rel=>exact ⟨rfl,BQ.out⟩
    case rest=>as_aux_lemma =>
     obtain ⟨rfl,hb⟩:=hcut
     clear zx_0 zx_1 zx_2 zx_3 zx_4 zx_5 zx_6 zx_7 zx_8 zx_9 zx_10 zx_11 zx_12 zx_13
     clear za_0 za_1 za_2 za_3 za_4 za_5 za_6 za_7 za_8 za_9 za_10 za_11 za_12 za_13
     obtain ⟨w15,rfl⟩ : ∃ x,x=wc:=⟨_,rfl⟩
     have szw15:=hb.size
     replace F0:=Lib.hid (Qd.below F0.out hb (by omega))
     replace F2:=Lib.hid (F2.out.below hb (by omega))
     replace F3:=Lib.hid (F3.out.below hb (by omega))
     replace AB0:=Lib.hid ((hb.block w.heap.size (by omega)).trans AB0.out)
     replace W:=Lib.hid (Qd.below W.out hb (by omega))
     replace BW:=Lib.hid ((hb.block w6.heap.size (by omega)).trans BW.out)
     replace X0:=Lib.hid (Qg.owns_keep X0.out (.of_below hb fun b o f=>by have:=f.2;omega))
     replace BX0:=Lib.hid ((hb.block w8.heap.size (by omega)).trans BX0.out)
     replace X2:=Lib.hid (X2.out.keep (.of_below hb fun b o f=>by have:=f.2;omega))
     replace X3:=Lib.hid (X3.out.keep (.of_below hb fun b o f=>by have:=f.2;omega))
     replace G:=Lib.hid (Qg.owns_keep G.out (.of_below hb fun b o f=>by have:=f.2;omega))
     replace BG:=Lib.hid ((hb.block w12.heap.size (by omega)).trans BG.out)
     replace T:=Lib.hid (T.out.trans (hb.mono (by omega)))
     clear hb
     have HC:=Lib.hid (J9 _ _ a2 n2 c2 x2 F2.out (by omega) (by rw [U2.out];omega))
     go_wp2_with fail
     refine HC.out.mono ?_
     rintro e w16 ⟨rfl,hr,hb⟩
     clear HC
     have szw16:=hb.size
     replace F0:=Lib.hid (Qd.below F0.out hb (by omega))
     replace F2:=Lib.hid (F2.out.below hb (by omega))
     replace F3:=Lib.hid (F3.out.below hb (by omega))
     replace AB0:=Lib.hid ((hb.block w.heap.size (by omega)).trans AB0.out)
     replace W:=Lib.hid (Qd.below W.out hb (by omega))
     replace BW:=Lib.hid ((hb.block w6.heap.size (by omega)).trans BW.out)
     replace X0:=Lib.hid (Qg.owns_keep X0.out (.of_below hb fun b o f=>by have:=f.2;omega))
     replace BX0:=Lib.hid ((hb.block w8.heap.size (by omega)).trans BX0.out)
     replace X2:=Lib.hid (X2.out.keep (.of_below hb fun b o f=>by have:=f.2;omega))
     replace X3:=Lib.hid (X3.out.keep (.of_below hb fun b o f=>by have:=f.2;omega))
     replace G:=Lib.hid (Qg.owns_keep G.out (.of_below hb fun b o f=>by have:=f.2;omega))
     replace BG:=Lib.hid ((hb.block w12.heap.size (by omega)).trans BG.out)
     replace T:=Lib.hid (T.out.trans (hb.mono (by omega)))
     clear hb
     have Z2:=Lib.hid hr.under
     clear hr
     have HC:=Lib.hid (Qba _ _ _ _ _ n2 n2 n2 x2 (X2.out.listAt (I:=Qf w10.heap.size) (fun b o f=>f.2) (by decide)) Z2.out (by omega) (by omega) (by rw [U2.out];omega))
     go_wp2_with fail
     refine HC.out.mono ?_
     rintro e w17 ⟨rfl,hb⟩
     clear HC Z2
     have szw17:=hb.size
     replace F0:=Lib.hid (Qd.below F0.out hb (by omega))
     replace F2:=Lib.hid (F2.out.below hb (by omega))
     replace F3:=Lib.hid (F3.out.below hb (by omega))
     replace AB0:=Lib.hid ((hb.block w.heap.size (by omega)).trans AB0.out)
     replace W:=Lib.hid (Qd.below W.out hb (by omega))
     replace BW:=Lib.hid ((hb.block w6.heap.size (by omega)).trans BW.out)
     replace X0:=Lib.hid (Qg.owns_keep X0.out (.of_below hb fun b o f=>by have:=f.2;omega))
     replace BX0:=Lib.hid ((hb.block w8.heap.size (by omega)).trans BX0.out)
     replace X2:=Lib.hid (X2.out.keep (.of_below hb fun b o f=>by have:=f.2;omega))
     replace X3:=Lib.hid (X3.out.keep (.of_below hb fun b o f=>by have:=f.2;omega))
     replace G:=Lib.hid (Qg.owns_keep G.out (.of_below hb fun b o f=>by have:=f.2;omega))
     replace BG:=Lib.hid ((hb.block w12.heap.size (by omega)).trans BG.out)
     replace T:=Lib.hid (T.out.trans (hb.mono (by omega)))
     clear hb
     have HC:=Lib.hid (J9 _ _ a3 n3 c3 x3 F3.out (by omega) (by rw [U3.out];omega))
     go_wp2_with fail
     refine HC.out.mono ?_
     rintro e w18 ⟨rfl,hr,hb⟩
     clear HC
     have szw18:=hb.size
     replace F0:=Lib.hid (Qd.below F0.out hb (by omega))
     replace F2:=Lib.hid (F2.out.below hb (by omega))
     replace F3:=Lib.hid (F3.out.below hb (by omega))
     replace AB0:=Lib.hid ((hb.block w.heap.size (by omega)).trans AB0.out)
     replace W:=Lib.hid (Qd.below W.out hb (by omega))
     replace BW:=Lib.hid ((hb.block w6.heap.size (by omega)).trans BW.out)
     replace X0:=Lib.hid (Qg.owns_keep X0.out (.of_below hb fun b o f=>by have:=f.2;omega))
     replace BX0:=Lib.hid ((hb.block w8.heap.size (by omega)).trans BX0.out)
     replace X2:=Lib.hid (X2.out.keep (.of_below hb fun b o f=>by have:=f.2;omega))
     replace X3:=Lib.hid (X3.out.keep (.of_below hb fun b o f=>by have:=f.2;omega))
     replace G:=Lib.hid (Qg.owns_keep G.out (.of_below hb fun b o f=>by have:=f.2;omega))
     replace BG:=Lib.hid ((hb.block w12.heap.size (by omega)).trans BG.out)
     replace T:=Lib.hid (T.out.trans (hb.mono (by omega)))
     clear hb
     have Z3:=Lib.hid hr.under
     clear hr
     have HC:=Lib.hid (Qba _ _ _ _ _ n3 n3 n3 x3 (X3.out.listAt (I:=Qf w11.heap.size) (fun b o f=>f.2) (by decide)) Z3.out (by omega) (by omega) (by rw [U3.out];omega))
     go_wp2_with fail
     refine HC.out.mono ?_
     rintro e w19 ⟨rfl,hb⟩
     clear HC Z3
     have szw19:=hb.size
     replace F0:=Lib.hid (Qd.below F0.out hb (by omega))
     replace F2:=Lib.hid (F2.out.below hb (by omega))
     replace F3:=Lib.hid (F3.out.below hb (by omega))
     replace AB0:=Lib.hid ((hb.block w.heap.size (by omega)).trans AB0.out)
     replace W:=Lib.hid (Qd.below W.out hb (by omega))
     replace BW:=Lib.hid ((hb.block w6.heap.size (by omega)).trans BW.out)
     replace X0:=Lib.hid (Qg.owns_keep X0.out (.of_below hb fun b o f=>by have:=f.2;omega))
     replace BX0:=Lib.hid ((hb.block w8.heap.size (by omega)).trans BX0.out)
     replace X2:=Lib.hid (X2.out.keep (.of_below hb fun b o f=>by have:=f.2;omega))
     replace X3:=Lib.hid (X3.out.keep (.of_below hb fun b o f=>by have:=f.2;omega))
     replace G:=Lib.hid (Qg.owns_keep G.out (.of_below hb fun b o f=>by have:=f.2;omega))
     replace BG:=Lib.hid ((hb.block w12.heap.size (by omega)).trans BG.out)
     replace T:=Lib.hid (T.out.trans (hb.mono (by omega)))
     clear hb
     have hc:=Qfv _ _ _ x0 (1) X0.out (fun b o f=>Nat.lt_of_lt_of_le f.2 (by omega)) (Z8 (by rw [U0.out];omega)) (by omega) (by rw [K0.out];omega)
     have zx_0:=cell_of_row _ w8.heap.size 0 _ _ _ BX0.out
     have zx_1:=cell_of_row _ w8.heap.size 1 _ _ _ BX0.out
     have zx_2:=cell_of_row _ w8.heap.size 2 _ _ _ BX0.out
     have zx_3:=cell_of_row _ w8.heap.size 3 _ _ _ BX0.out
     have zx_4:=cell_of_row _ w8.heap.size 4 _ _ _ BX0.out
     have zx_5:=cell_of_row _ w8.heap.size 5 _ _ _ BX0.out
     have zx_6:=cell_of_row _ w8.heap.size 6 _ _ _ BX0.out
     have zx_7:=cell_of_row _ w8.heap.size 7 _ _ _ BX0.out
     have zx_8:=cell_of_row _ w8.heap.size 8 _ _ _ BX0.out
     have zx_9:=cell_of_row _ w8.heap.size 9 _ _ _ BX0.out
     have zx_10:=cell_of_row _ w8.heap.size 10 _ _ _ BX0.out
     have zx_11:=cell_of_row _ w8.heap.size 11 _ _ _ BX0.out
     have zx_12:=cell_of_row _ w8.heap.size 12 _ _ _ BX0.out
     have zx_13:=cell_of_row _ w8.heap.size 13 _ _ _ BX0.out
     simp only [List.getElem?_toArray,List.getElem?_cons_zero,List.getElem?_cons_succ] at zx_0 zx_1 zx_2 zx_3 zx_4 zx_5 zx_6 zx_7 zx_8 zx_9 zx_10 zx_11 zx_12 zx_13
     rw [K0.out] at hc
     have HC:=Lib.hid hc
     clear hc
     go_wp2_with fail
     clear zx_0 zx_1 zx_2 zx_3 zx_4 zx_5 zx_6 zx_7 zx_8 zx_9 zx_10 zx_11 zx_12 zx_13
     refine HC.out.mono ?_
     rintro e w21 ⟨rfl,ho,w20,hb,ht⟩
     clear HC
     have szw20:=hb.size
     replace F0:=Lib.hid (Qd.below F0.out hb (by omega))
     replace F2:=Lib.hid (F2.out.below hb (by omega))
     replace F3:=Lib.hid (F3.out.below hb (by omega))
     replace AB0:=Lib.hid ((hb.block w.heap.size (by omega)).trans AB0.out)
     replace W:=Lib.hid (Qd.below W.out hb (by omega))
     replace BW:=Lib.hid ((hb.block w6.heap.size (by omega)).trans BW.out)
     replace BX0:=Lib.hid ((hb.block w8.heap.size (by omega)).trans BX0.out)
     replace X2:=Lib.hid (X2.out.keep (.of_below hb fun b o f=>by have:=f.2;omega))
     replace X3:=Lib.hid (X3.out.keep (.of_below hb fun b o f=>by have:=f.2;omega))
     replace G:=Lib.hid (Qg.owns_keep G.out (.of_below hb fun b o f=>by have:=f.2;omega))
     replace BG:=Lib.hid ((hb.block w12.heap.size (by omega)).trans BG.out)
     replace T:=Lib.hid (T.out.trans (hb.mono (by omega)))
     clear hb
     have hq:=ht.below (B:=w7.heap.size) fun b o f=>f.1
     replace F0:=Lib.hid (Qd.below F0.out hq (by omega))
     replace F2:=Lib.hid (F2.out.below hq (by omega))
     replace F3:=Lib.hid (F3.out.below hq (by omega))
     replace AB0:=Lib.hid ((ht.block w.heap.size fun o f=>by have h1:=f.1;have h2:=f.2;omega).trans AB0.out)
     replace W:=Lib.hid (Qd.below W.out hq (by omega))
     replace BW:=Lib.hid ((ht.block w6.heap.size fun o f=>by have h1:=f.1;have h2:=f.2;omega).trans BW.out)
     replace BX0:=Lib.hid ((ht.block w8.heap.size fun o f=>by have h1:=f.1;have h2:=f.2;omega).trans BX0.out)
     replace X2:=Lib.hid (X2.out.keep (ht.same fun b o f f'=>by have h1:=f.1;have h2:=f.2;have h3:=f'.1;have h4:=f'.2;omega))
     replace X3:=Lib.hid (X3.out.keep (ht.same fun b o f f'=>by have h1:=f.1;have h2:=f.2;have h3:=f'.1;have h4:=f'.2;omega))
     replace G:=Lib.hid (Qg.owns_keep G.out (ht.same fun b o f f'=>by have h1:=f.1;have h2:=f.2;have h3:=f'.1;have h4:=f'.2;omega))
     replace BG:=Lib.hid ((ht.block w12.heap.size fun o f=>by have h1:=f.1;have h2:=f.2;omega).trans BG.out)
     replace T:=Lib.hid (T.out.trans (hq.mono (by omega)))
     have szt:=ht.size
     clear hq
     have szw21:w20.heap.size<=w21.heap.size:=Nat.le_of_eq szt.symm
     clear ht szt ho X0
     have hc:=Qac _ _ (some ⟨w9.heap.size,0,none⟩) n2 n2 x2 (1+(k0:Nat)) X2.out (by rw [U2.out];omega) (by omega) (by rw [K2.out];omega)
     rw [K2.out] at hc
     have HC:=Lib.hid hc
     clear hc
     go_wp2_with fail
     refine HC.out.mono ?_
     rintro e w22 ⟨rfl,ho,ht⟩
     clear HC
     have hq:=ht.below (B:=w9.heap.size) fun b o f=>f.1
     replace F0:=Lib.hid (Qd.below F0.out hq (by omega))
     replace F2:=Lib.hid (F2.out.below hq (by omega))
     replace F3:=Lib.hid (F3.out.below hq (by omega))
     replace AB0:=Lib.hid ((ht.block w.heap.size fun o f=>by have h1:=f.1;have h2:=f.2;omega).trans AB0.out)
     replace W:=Lib.hid (Qd.below W.out hq (by omega))
     replace BW:=Lib.hid ((ht.block w6.heap.size fun o f=>by have h1:=f.1;have h2:=f.2;omega).trans BW.out)
     replace BX0:=Lib.hid ((ht.block w8.heap.size fun o f=>by have h1:=f.1;have h2:=f.2;omega).trans BX0.out)
     replace X3:=Lib.hid (X3.out.keep (ht.same fun b o f f'=>by have h1:=f.1;have h2:=f.2;have h3:=f'.1;have h4:=f'.2;omega))
     replace G:=Lib.hid (Qg.owns_keep G.out (ht.same fun b o f f'=>by have h1:=f.1;have h2:=f.2;have h3:=f'.1;have h4:=f'.2;omega))
     replace BG:=Lib.hid ((ht.block w12.heap.size fun o f=>by have h1:=f.1;have h2:=f.2;omega).trans BG.out)
     replace T:=Lib.hid (T.out.trans (hq.mono (by omega)))
     have szt:=ht.size
     clear hq
     have szw22:w21.heap.size<=w22.heap.size:=Nat.le_of_eq szt.symm
     clear ht szt ho X2
     have hc:=Qac _ _ (some ⟨w10.heap.size,0,none⟩) n3 n3 x3 (1+(k0:Nat)+(k2:Int)) X3.out (by rw [U3.out];omega) (by omega) (by rw [K3.out];omega)
     rw [K3.out] at hc
     have HC:=Lib.hid hc
     clear hc
     go_wp2_with fail
     refine HC.out.mono ?_
     rintro e w23 ⟨rfl,ho,ht⟩
     clear HC
     have hq:=ht.below (B:=w10.heap.size) fun b o f=>f.1
     replace F0:=Lib.hid (Qd.below F0.out hq (by omega))
     replace F2:=Lib.hid (F2.out.below hq (by omega))
     replace F3:=Lib.hid (F3.out.below hq (by omega))
     replace AB0:=Lib.hid ((ht.block w.heap.size fun o f=>by have h1:=f.1;have h2:=f.2;omega).trans AB0.out)
     replace W:=Lib.hid (Qd.below W.out hq (by omega))
     replace BW:=Lib.hid ((ht.block w6.heap.size fun o f=>by have h1:=f.1;have h2:=f.2;omega).trans BW.out)
     replace BX0:=Lib.hid ((ht.block w8.heap.size fun o f=>by have h1:=f.1;have h2:=f.2;omega).trans BX0.out)
     replace G:=Lib.hid (Qg.owns_keep G.out (ht.same fun b o f f'=>by have h1:=f.1;have h2:=f.2;have h3:=f'.1;have h4:=f'.2;omega))
     replace BG:=Lib.hid ((ht.block w12.heap.size fun o f=>by have h1:=f.1;have h2:=f.2;omega).trans BG.out)
     replace T:=Lib.hid (T.out.trans (hq.mono (by omega)))
     have szt:=ht.size
     clear hq
     have szw23:w22.heap.size<=w23.heap.size:=Nat.le_of_eq szt.symm
     clear ht szt ho X3
     have tk:decide ((1:Int)+(k0:Int)+(k2:Int)+(k3:Int)<0)=false:=decide_eq_false (by omega)
     have HC:=Lib.hid (Qdn _ _ _ _ _ v (Qg.owns_reads (I:=Qf w12.heap.size) G.out fun b o f=>f.2) W.out (by omega) (by omega) vb)
     have zg_0:=cell_of_row _ w12.heap.size 0 _ _ _ BG.out
     have zg_1:=cell_of_row _ w12.heap.size 1 _ _ _ BG.out
     have zg_2:=cell_of_row _ w12.heap.size 2 _ _ _ BG.out
     have zg_3:=cell_of_row _ w12.heap.size 3 _ _ _ BG.out
     have zg_4:=cell_of_row _ w12.heap.size 4 _ _ _ BG.out
     have zg_5:=cell_of_row _ w12.heap.size 5 _ _ _ BG.out
     have zg_6:=cell_of_row _ w12.heap.size 6 _ _ _ BG.out
     have zg_7:=cell_of_row _ w12.heap.size 7 _ _ _ BG.out
     have zg_8:=cell_of_row _ w12.heap.size 8 _ _ _ BG.out
     have zg_9:=cell_of_row _ w12.heap.size 9 _ _ _ BG.out
     have zg_10:=cell_of_row _ w12.heap.size 10 _ _ _ BG.out
     have zg_11:=cell_of_row _ w12.heap.size 11 _ _ _ BG.out
     have zg_12:=cell_of_row _ w12.heap.size 12 _ _ _ BG.out
     have zg_13:=cell_of_row _ w12.heap.size 13 _ _ _ BG.out
     simp only [List.getElem?_toArray,List.getElem?_cons_zero,List.getElem?_cons_succ] at zg_0 zg_1 zg_2 zg_3 zg_4 zg_5 zg_6 zg_7 zg_8 zg_9 zg_10 zg_11 zg_12 zg_13
     have zw_0:=cell_of_row _ w6.heap.size 0 _ _ _ BW.out
     have zw_1:=cell_of_row _ w6.heap.size 1 _ _ _ BW.out
     have zw_2:=cell_of_row _ w6.heap.size 2 _ _ _ BW.out
     have zw_3:=cell_of_row _ w6.heap.size 3 _ _ _ BW.out
     have zw_4:=cell_of_row _ w6.heap.size 4 _ _ _ BW.out
     have zw_5:=cell_of_row _ w6.heap.size 5 _ _ _ BW.out
     have zw_6:=cell_of_row _ w6.heap.size 6 _ _ _ BW.out
     have zw_7:=cell_of_row _ w6.heap.size 7 _ _ _ BW.out
     have zw_8:=cell_of_row _ w6.heap.size 8 _ _ _ BW.out
     have zw_9:=cell_of_row _ w6.heap.size 9 _ _ _ BW.out
     have zw_10:=cell_of_row _ w6.heap.size 10 _ _ _ BW.out
     have zw_11:=cell_of_row _ w6.heap.size 11 _ _ _ BW.out
     have zw_12:=cell_of_row _ w6.heap.size 12 _ _ _ BW.out
     have zw_13:=cell_of_row _ w6.heap.size 13 _ _ _ BW.out
     simp only [List.getElem?_toArray,List.getElem?_cons_zero,List.getElem?_cons_succ] at zw_0 zw_1 zw_2 zw_3 zw_4 zw_5 zw_6 zw_7 zw_8 zw_9 zw_10 zw_11 zw_12 zw_13
     go_wp2_with fail
     clear zg_0 zg_1 zg_2 zg_3 zg_4 zg_5 zg_6 zg_7 zg_8 zg_9 zg_10 zg_11 zg_12 zg_13
     clear zw_0 zw_1 zw_2 zw_3 zw_4 zw_5 zw_6 zw_7 zw_8 zw_9 zw_10 zw_11 zw_12 zw_13
     refine HC.out.mono ?_
     rintro e w24 ⟨rfl,hb⟩
     clear HC
     have szw24:=hb.size
     replace F0:=Lib.hid (Qd.below F0.out hb (by omega))
     replace F2:=Lib.hid (F2.out.below hb (by omega))
     replace F3:=Lib.hid (F3.out.below hb (by omega))
     replace AB0:=Lib.hid ((hb.block w.heap.size (by omega)).trans AB0.out)
     replace W:=Lib.hid (Qd.below W.out hb (by omega))
     replace BW:=Lib.hid ((hb.block w6.heap.size (by omega)).trans BW.out)
     replace BX0:=Lib.hid ((hb.block w8.heap.size (by omega)).trans BX0.out)
     replace G:=Lib.hid (Qg.owns_keep G.out (.of_below hb fun b o f=>by have:=f.2;omega))
     replace BG:=Lib.hid ((hb.block w12.heap.size (by omega)).trans BG.out)
     replace T:=Lib.hid (T.out.trans (hb.mono (by omega)))
     clear hb
     have hc:=Qfv _ _ _ v 1 G.out (fun b o f=>Nat.lt_of_lt_of_le f.2 (by omega)) vb (by omega) (by rw [KV.out];omega)
     rw [KV.out] at hc
     have HC:=Lib.hid hc
     clear hc
     have zg_0:=cell_of_row _ w12.heap.size 0 _ _ _ BG.out
     have zg_1:=cell_of_row _ w12.heap.size 1 _ _ _ BG.out
     have zg_2:=cell_of_row _ w12.heap.size 2 _ _ _ BG.out
     have zg_3:=cell_of_row _ w12.heap.size 3 _ _ _ BG.out
     have zg_4:=cell_of_row _ w12.heap.size 4 _ _ _ BG.out
     have zg_5:=cell_of_row _ w12.heap.size 5 _ _ _ BG.out
     have zg_6:=cell_of_row _ w12.heap.size 6 _ _ _ BG.out
     have zg_7:=cell_of_row _ w12.heap.size 7 _ _ _ BG.out
     have zg_8:=cell_of_row _ w12.heap.size 8 _ _ _ BG.out
     have zg_9:=cell_of_row _ w12.heap.size 9 _ _ _ BG.out
     have zg_10:=cell_of_row _ w12.heap.size 10 _ _ _ BG.out
     have zg_11:=cell_of_row _ w12.heap.size 11 _ _ _ BG.out
     have zg_12:=cell_of_row _ w12.heap.size 12 _ _ _ BG.out
     have zg_13:=cell_of_row _ w12.heap.size 13 _ _ _ BG.out
     simp only [List.getElem?_toArray,List.getElem?_cons_zero,List.getElem?_cons_succ] at zg_0 zg_1 zg_2 zg_3 zg_4 zg_5 zg_6 zg_7 zg_8 zg_9 zg_10 zg_11 zg_12 zg_13
     go_wp2_with fail
     clear zg_0 zg_1 zg_2 zg_3 zg_4 zg_5 zg_6 zg_7 zg_8 zg_9 zg_10 zg_11 zg_12 zg_13
     refine HC.out.mono ?_
     rintro e w26 ⟨rfl,ho,w25,hb,ht⟩
     clear HC
     have szw25:=hb.size
     replace F0:=Lib.hid (Qd.below F0.out hb (by omega))
     replace F2:=Lib.hid (F2.out.below hb (by omega))
     replace F3:=Lib.hid (F3.out.below hb (by omega))
     replace AB0:=Lib.hid ((hb.block w.heap.size (by omega)).trans AB0.out)
     replace W:=Lib.hid (Qd.below W.out hb (by omega))
     replace BW:=Lib.hid ((hb.block w6.heap.size (by omega)).trans BW.out)
     replace BX0:=Lib.hid ((hb.block w8.heap.size (by omega)).trans BX0.out)
     replace BG:=Lib.hid ((hb.block w12.heap.size (by omega)).trans BG.out)
     replace T:=Lib.hid (T.out.trans (hb.mono (by omega)))
     clear hb
     have hq:=ht.below (B:=w11.heap.size) fun b o f=>f.1
     replace F0:=Lib.hid (Qd.below F0.out hq (by omega))
     replace F2:=Lib.hid (F2.out.below hq (by omega))
     replace F3:=Lib.hid (F3.out.below hq (by omega))
     replace AB0:=Lib.hid ((ht.block w.heap.size fun o f=>by have h1:=f.1;have h2:=f.2;omega).trans AB0.out)
     replace W:=Lib.hid (Qd.below W.out hq (by omega))
     replace BW:=Lib.hid ((ht.block w6.heap.size fun o f=>by have h1:=f.1;have h2:=f.2;omega).trans BW.out)
     replace BX0:=Lib.hid ((ht.block w8.heap.size fun o f=>by have h1:=f.1;have h2:=f.2;omega).trans BX0.out)
     replace BG:=Lib.hid ((ht.block w12.heap.size fun o f=>by have h1:=f.1;have h2:=f.2;omega).trans BG.out)
     replace T:=Lib.hid (T.out.trans (hq.mono (by omega)))
     have szt:=ht.size
     clear hq
     have szw26:w25.heap.size<=w26.heap.size:=Nat.le_of_eq szt.symm
     replace G:=Lib.hid ho
     clear ht szt ho
     have tv:decide ((1:Int)+(kv:Int)<0)=false:=decide_eq_false (by omega)
     have tn:((1:Int)+(kv:Int) != 1+(kv:Int))=false:=by simp
     have hc:=Qfw _ w12.heap.size _ v 1 (Qg.owns_reads (I:=Qf w12.heap.size) G.out fun b o f=>f.2) (by omega) vb (by omega) (by rw [KV.out];omega)
     rw [KV.out] at hc
     have HC:=Lib.hid hc
     clear hc
     have zg_0:=cell_of_row _ w12.heap.size 0 _ _ _ BG.out
     have zg_1:=cell_of_row _ w12.heap.size 1 _ _ _ BG.out
     have zg_2:=cell_of_row _ w12.heap.size 2 _ _ _ BG.out
     have zg_3:=cell_of_row _ w12.heap.size 3 _ _ _ BG.out
     have zg_4:=cell_of_row _ w12.heap.size 4 _ _ _ BG.out
     have zg_5:=cell_of_row _ w12.heap.size 5 _ _ _ BG.out
     have zg_6:=cell_of_row _ w12.heap.size 6 _ _ _ BG.out
     have zg_7:=cell_of_row _ w12.heap.size 7 _ _ _ BG.out
     have zg_8:=cell_of_row _ w12.heap.size 8 _ _ _ BG.out
     have zg_9:=cell_of_row _ w12.heap.size 9 _ _ _ BG.out
     have zg_10:=cell_of_row _ w12.heap.size 10 _ _ _ BG.out
     have zg_11:=cell_of_row _ w12.heap.size 11 _ _ _ BG.out
     have zg_12:=cell_of_row _ w12.heap.size 12 _ _ _ BG.out
     have zg_13:=cell_of_row _ w12.heap.size 13 _ _ _ BG.out
     simp only [List.getElem?_toArray,List.getElem?_cons_zero,List.getElem?_cons_succ] at zg_0 zg_1 zg_2 zg_3 zg_4 zg_5 zg_6 zg_7 zg_8 zg_9 zg_10 zg_11 zg_12 zg_13
     go_wp2_with fail
     clear zg_0 zg_1 zg_2 zg_3 zg_4 zg_5 zg_6 zg_7 zg_8 zg_9 zg_10 zg_11 zg_12 zg_13
     refine HC.out.mono ?_
     rintro e w27 ⟨rfl,hb⟩
     clear HC
     have szw27:=hb.size
     replace F0:=Lib.hid (Qd.below F0.out hb (by omega))
     replace F2:=Lib.hid (F2.out.below hb (by omega))
     replace F3:=Lib.hid (F3.out.below hb (by omega))
     replace AB0:=Lib.hid ((hb.block w.heap.size (by omega)).trans AB0.out)
     replace W:=Lib.hid (Qd.below W.out hb (by omega))
     replace BW:=Lib.hid ((hb.block w6.heap.size (by omega)).trans BW.out)
     replace BX0:=Lib.hid ((hb.block w8.heap.size (by omega)).trans BX0.out)
     replace BG:=Lib.hid ((hb.block w12.heap.size (by omega)).trans BG.out)
     replace G:=Lib.hid (Qg.owns_keep G.out (.of_below hb fun b o f=>by have:=f.2;omega))
     replace T:=Lib.hid (T.out.trans (hb.mono (by omega)))
     clear hb
     have HC:=Lib.hid (Qfb _ _ _ x0 F0.out (by omega) (by rw [U0.out];omega))
     have za_0:=cell_of_row _ w.heap.size 0 _ _ _ AB0.out
     have za_1:=cell_of_row _ w.heap.size 1 _ _ _ AB0.out
     have za_2:=cell_of_row _ w.heap.size 2 _ _ _ AB0.out
     have za_3:=cell_of_row _ w.heap.size 3 _ _ _ AB0.out
     have za_4:=cell_of_row _ w.heap.size 4 _ _ _ AB0.out
     have za_5:=cell_of_row _ w.heap.size 5 _ _ _ AB0.out
     have za_6:=cell_of_row _ w.heap.size 6 _ _ _ AB0.out
     have za_7:=cell_of_row _ w.heap.size 7 _ _ _ AB0.out
     have za_8:=cell_of_row _ w.heap.size 8 _ _ _ AB0.out
     have za_9:=cell_of_row _ w.heap.size 9 _ _ _ AB0.out
     have za_10:=cell_of_row _ w.heap.size 10 _ _ _ AB0.out
     have za_11:=cell_of_row _ w.heap.size 11 _ _ _ AB0.out
     have za_12:=cell_of_row _ w.heap.size 12 _ _ _ AB0.out
     have za_13:=cell_of_row _ w.heap.size 13 _ _ _ AB0.out
     simp only [List.getElem?_toArray,List.getElem?_cons_zero,List.getElem?_cons_succ] at za_0 za_1 za_2 za_3 za_4 za_5 za_6 za_7 za_8 za_9 za_10 za_11 za_12 za_13
     go_wp2_with fail
     clear za_0 za_1 za_2 za_3 za_4 za_5 za_6 za_7 za_8 za_9 za_10 za_11 za_12 za_13
     refine HC.out.mono ?_
     rintro e w28 ⟨eH0,rfl,hr,hb⟩
     clear HC
     have szw28:=hb.size
     replace F0:=Lib.hid (Qd.below F0.out hb (by omega))
     replace F2:=Lib.hid (F2.out.below hb (by omega))
     replace F3:=Lib.hid (F3.out.below hb (by omega))
     replace AB0:=Lib.hid ((hb.block w.heap.size (by omega)).trans AB0.out)
     replace W:=Lib.hid (Qd.below W.out hb (by omega))
     replace BW:=Lib.hid ((hb.block w6.heap.size (by omega)).trans BW.out)
     replace BX0:=Lib.hid ((hb.block w8.heap.size (by omega)).trans BX0.out)
     replace BG:=Lib.hid ((hb.block w12.heap.size (by omega)).trans BG.out)
     replace G:=Lib.hid (Qg.owns_keep G.out (.of_below hb fun b o f=>by have:=f.2;omega))
     replace T:=Lib.hid (T.out.trans (hb.mono (by omega)))
     clear hb
     have hH0:=Qd.under hr
     obtain ⟨aH0_0,nH0_0,cH0_0,aH0_1,nH0_1,cH0_1,aH0_2,nH0_2,cH0_2,aH0_3,nH0_3,cH0_3,aH0_4,nH0_4,cH0_4,aH0_5,nH0_5,cH0_5,aH0_6,nH0_6,cH0_6,aH0_7,nH0_7,cH0_7,aH0_8,nH0_8,cH0_8,rfl,-⟩:=Qn.1 hH0
     have H0:=Lib.hid hH0
     clear hr hH0
     have HC:=Lib.hid (J9 _ _ a2 n2 c2 x2 F2.out (by omega) (by rw [U2.out];omega))
     go_wp2_with fail
     refine HC.out.mono ?_
     rintro e w29 ⟨rfl,hr,hb⟩
     clear HC
     have szw29:=hb.size
     replace F0:=Lib.hid (Qd.below F0.out hb (by omega))
     replace F2:=Lib.hid (F2.out.below hb (by omega))
     replace F3:=Lib.hid (F3.out.below hb (by omega))
     replace AB0:=Lib.hid ((hb.block w.heap.size (by omega)).trans AB0.out)
     replace W:=Lib.hid (Qd.below W.out hb (by omega))
     replace BW:=Lib.hid ((hb.block w6.heap.size (by omega)).trans BW.out)
     replace BX0:=Lib.hid ((hb.block w8.heap.size (by omega)).trans BX0.out)
     replace BG:=Lib.hid ((hb.block w12.heap.size (by omega)).trans BG.out)
     replace G:=Lib.hid (Qg.owns_keep G.out (.of_below hb fun b o f=>by have:=f.2;omega))
     replace H0:=Lib.hid (Qd.below H0.out hb (by omega))
     replace T:=Lib.hid (T.out.trans (hb.mono (by omega)))
     clear hb
     have H2:=Lib.hid hr.under
     clear hr
     have HC:=Lib.hid (J9 _ _ a3 n3 c3 x3 F3.out (by omega) (by rw [U3.out];omega))
     go_wp2_with fail
     refine HC.out.mono ?_
     rintro e w30 ⟨rfl,hr,hb⟩
     clear HC
     have szw30:=hb.size
     replace F0:=Lib.hid (Qd.below F0.out hb (by omega))
     replace F2:=Lib.hid (F2.out.below hb (by omega))
     replace F3:=Lib.hid (F3.out.below hb (by omega))
     replace AB0:=Lib.hid ((hb.block w.heap.size (by omega)).trans AB0.out)
     replace W:=Lib.hid (Qd.below W.out hb (by omega))
     replace BW:=Lib.hid ((hb.block w6.heap.size (by omega)).trans BW.out)
     replace BX0:=Lib.hid ((hb.block w8.heap.size (by omega)).trans BX0.out)
     replace BG:=Lib.hid ((hb.block w12.heap.size (by omega)).trans BG.out)
     replace G:=Lib.hid (Qg.owns_keep G.out (.of_below hb fun b o f=>by have:=f.2;omega))
     replace H0:=Lib.hid (Qd.below H0.out hb (by omega))
     replace H2:=Lib.hid (H2.out.below hb (by omega))
     replace T:=Lib.hid (T.out.trans (hb.mono (by omega)))
     clear hb
     have H3:=Lib.hid hr.under
     clear hr
     have hc:=Qda _ _ x0 (Qd.le H0.out (by omega)) (by rw [U0.out];omega) HWD.out a1 H64.out _ n2 n2 x2 ((H2.out.le (by omega)).ints (by omega)) (by omega) _ n3 n3 x3 ((H3.out.le (by omega)).ints (by omega)) (by omega) (HG.out.below hlt T.out)
     rw [HV.out] at hc
     have HC:=Lib.hid hc
     clear hc
     go_wp2_with fail
     refine HC.out.mono ?_
     rintro e w31 ⟨eJ,rfl,hr,hb⟩
     clear HC
     have szw31:=hb.size
     replace F0:=Lib.hid (Qd.below F0.out hb (by omega))
     replace F2:=Lib.hid (F2.out.below hb (by omega))
     replace F3:=Lib.hid (F3.out.below hb (by omega))
     replace AB0:=Lib.hid ((hb.block w.heap.size (by omega)).trans AB0.out)
     replace W:=Lib.hid (Qd.below W.out hb (by omega))
     replace BW:=Lib.hid ((hb.block w6.heap.size (by omega)).trans BW.out)
     replace BX0:=Lib.hid ((hb.block w8.heap.size (by omega)).trans BX0.out)
     replace BG:=Lib.hid ((hb.block w12.heap.size (by omega)).trans BG.out)
     replace G:=Lib.hid (Qg.owns_keep G.out (.of_below hb fun b o f=>by have:=f.2;omega))
     replace T:=Lib.hid (T.out.trans (hb.mono (by omega)))
     clear hb
     obtain ⟨aJ_0,nJ_0,cJ_0,aJ_1,nJ_1,cJ_1,aJ_2,nJ_2,cJ_2,aJ_3,nJ_3,cJ_3,aJ_4,nJ_4,cJ_4,aJ_5,nJ_5,cJ_5,aJ_6,nJ_6,cJ_6,aJ_7,nJ_7,cJ_7,aJ_8,nJ_8,cJ_8,Gx0,Gx1,Gx2,Gx3,Gx4,Gx5,Gx6,Gx7,Gx8,rfl,-⟩:=Jp.1 hr
     have J:=Lib.hid hr
     clear hr
     clear H0 H2 H3
     have hb:=(Below.refl w31.heap.size w31).alloc (Nat.le_refl _) (.cells #[.int .i64 v.1,.slice aJ_0 nJ_0 cJ_0,.slice aJ_1 nJ_1 cJ_1,.bool v.2.2.2.1,.bool v.2.2.2.2.1,.slice aJ_2 nJ_2 cJ_2,.slice aJ_3 nJ_3 cJ_3,.slice aJ_4 nJ_4 cJ_4,.slice aJ_5 nJ_5 cJ_5,.slice aJ_6 nJ_6 cJ_6,.slice aJ_7 nJ_7 cJ_7,.slice aJ_8 nJ_8 cJ_8,.int .i64 v.2.2.2.2.2.2.2.2.2.2.2.2.1,.bool v.2.2.2.2.2.2.2.2.2.2.2.2.2] 32 (0,0))
     have hk:=heap_alloc_new w31 (.cells #[.int .i64 v.1,.slice aJ_0 nJ_0 cJ_0,.slice aJ_1 nJ_1 cJ_1,.bool v.2.2.2.1,.bool v.2.2.2.2.1,.slice aJ_2 nJ_2 cJ_2,.slice aJ_3 nJ_3 cJ_3,.slice aJ_4 nJ_4 cJ_4,.slice aJ_5 nJ_5 cJ_5,.slice aJ_6 nJ_6 cJ_6,.slice aJ_7 nJ_7 cJ_7,.slice aJ_8 nJ_8 cJ_8,.int .i64 v.2.2.2.2.2.2.2.2.2.2.2.2.1,.bool v.2.2.2.2.2.2.2.2.2.2.2.2.2] 32 (0,0))
     have szw32:w31.heap.size<(w31.alloc (.cells #[.int .i64 v.1,.slice aJ_0 nJ_0 cJ_0,.slice aJ_1 nJ_1 cJ_1,.bool v.2.2.2.1,.bool v.2.2.2.2.1,.slice aJ_2 nJ_2 cJ_2,.slice aJ_3 nJ_3 cJ_3,.slice aJ_4 nJ_4 cJ_4,.slice aJ_5 nJ_5 cJ_5,.slice aJ_6 nJ_6 cJ_6,.slice aJ_7 nJ_7 cJ_7,.slice aJ_8 nJ_8 cJ_8,.int .i64 v.2.2.2.2.2.2.2.2.2.2.2.2.1,.bool v.2.2.2.2.2.2.2.2.2.2.2.2.2] 32 (0,0))).heap.size:=by simp
     obtain ⟨w32,hww32⟩ : ∃ W,w31.alloc (.cells #[.int .i64 v.1,.slice aJ_0 nJ_0 cJ_0,.slice aJ_1 nJ_1 cJ_1,.bool v.2.2.2.1,.bool v.2.2.2.2.1,.slice aJ_2 nJ_2 cJ_2,.slice aJ_3 nJ_3 cJ_3,.slice aJ_4 nJ_4 cJ_4,.slice aJ_5 nJ_5 cJ_5,.slice aJ_6 nJ_6 cJ_6,.slice aJ_7 nJ_7 cJ_7,.slice aJ_8 nJ_8 cJ_8,.int .i64 v.2.2.2.2.2.2.2.2.2.2.2.2.1,.bool v.2.2.2.2.2.2.2.2.2.2.2.2.2] 32 (0,0))=W:=⟨_,rfl⟩
     rw [hww32] at hb hk szw32
     replace F0:=Lib.hid (Qd.below F0.out hb (by omega))
     replace F2:=Lib.hid (F2.out.below hb (by omega))
     replace F3:=Lib.hid (F3.out.below hb (by omega))
     replace AB0:=Lib.hid ((hb.block w.heap.size (by omega)).trans AB0.out)
     replace W:=Lib.hid (Qd.below W.out hb (by omega))
     replace BW:=Lib.hid ((hb.block w6.heap.size (by omega)).trans BW.out)
     replace BX0:=Lib.hid ((hb.block w8.heap.size (by omega)).trans BX0.out)
     replace BG:=Lib.hid ((hb.block w12.heap.size (by omega)).trans BG.out)
     replace G:=Lib.hid (Qg.owns_keep G.out (.of_below hb fun b o f=>by have:=f.2;omega))
     replace J:=Lib.hid (Qg.owns_keep J.out (.of_below hb fun b o f=>by have:=f.2;omega))
     replace T:=Lib.hid (T.out.trans (hb.mono (by omega)))
     have BJ:=Lib.hid hk
     clear hb hk
     have HC:=Lib.hid (Qdn _ _ _ _ _ v (Qg.owns_reads (I:=Qf w31.heap.size) J.out fun b o f=>f.2) W.out (by omega) (by omega) vb)
     have zg_0:=cell_of_row _ w31.heap.size 0 _ _ _ BJ.out
     have zg_1:=cell_of_row _ w31.heap.size 1 _ _ _ BJ.out
     have zg_2:=cell_of_row _ w31.heap.size 2 _ _ _ BJ.out
     have zg_3:=cell_of_row _ w31.heap.size 3 _ _ _ BJ.out
     have zg_4:=cell_of_row _ w31.heap.size 4 _ _ _ BJ.out
     have zg_5:=cell_of_row _ w31.heap.size 5 _ _ _ BJ.out
     have zg_6:=cell_of_row _ w31.heap.size 6 _ _ _ BJ.out
     have zg_7:=cell_of_row _ w31.heap.size 7 _ _ _ BJ.out
     have zg_8:=cell_of_row _ w31.heap.size 8 _ _ _ BJ.out
     have zg_9:=cell_of_row _ w31.heap.size 9 _ _ _ BJ.out
     have zg_10:=cell_of_row _ w31.heap.size 10 _ _ _ BJ.out
     have zg_11:=cell_of_row _ w31.heap.size 11 _ _ _ BJ.out
     have zg_12:=cell_of_row _ w31.heap.size 12 _ _ _ BJ.out
     have zg_13:=cell_of_row _ w31.heap.size 13 _ _ _ BJ.out
     simp only [List.getElem?_toArray,List.getElem?_cons_zero,List.getElem?_cons_succ] at zg_0 zg_1 zg_2 zg_3 zg_4 zg_5 zg_6 zg_7 zg_8 zg_9 zg_10 zg_11 zg_12 zg_13
     have zw_0:=cell_of_row _ w6.heap.size 0 _ _ _ BW.out
     have zw_1:=cell_of_row _ w6.heap.size 1 _ _ _ BW.out
     have zw_2:=cell_of_row _ w6.heap.size 2 _ _ _ BW.out
     have zw_3:=cell_of_row _ w6.heap.size 3 _ _ _ BW.out
     have zw_4:=cell_of_row _ w6.heap.size 4 _ _ _ BW.out
     have zw_5:=cell_of_row _ w6.heap.size 5 _ _ _ BW.out
     have zw_6:=cell_of_row _ w6.heap.size 6 _ _ _ BW.out
     have zw_7:=cell_of_row _ w6.heap.size 7 _ _ _ BW.out
     have zw_8:=cell_of_row _ w6.heap.size 8 _ _ _ BW.out
     have zw_9:=cell_of_row _ w6.heap.size 9 _ _ _ BW.out
     have zw_10:=cell_of_row _ w6.heap.size 10 _ _ _ BW.out
     have zw_11:=cell_of_row _ w6.heap.size 11 _ _ _ BW.out
     have zw_12:=cell_of_row _ w6.heap.size 12 _ _ _ BW.out
     have zw_13:=cell_of_row _ w6.heap.size 13 _ _ _ BW.out
     simp only [List.getElem?_toArray,List.getElem?_cons_zero,List.getElem?_cons_succ] at zw_0 zw_1 zw_2 zw_3 zw_4 zw_5 zw_6 zw_7 zw_8 zw_9 zw_10 zw_11 zw_12 zw_13
     go_wp2_with fail
     clear hww32
     clear zg_0 zg_1 zg_2 zg_3 zg_4 zg_5 zg_6 zg_7 zg_8 zg_9 zg_10 zg_11 zg_12 zg_13
     clear zw_0 zw_1 zw_2 zw_3 zw_4 zw_5 zw_6 zw_7 zw_8 zw_9 zw_10 zw_11 zw_12 zw_13
     refine HC.out.mono ?_
     rintro e w33 ⟨rfl,hb⟩
     clear HC
     have szw33:=hb.size
     replace F0:=Lib.hid (Qd.below F0.out hb (by omega))
     replace F2:=Lib.hid (F2.out.below hb (by omega))
     replace F3:=Lib.hid (F3.out.below hb (by omega))
     replace AB0:=Lib.hid ((hb.block w.heap.size (by omega)).trans AB0.out)
     replace W:=Lib.hid (Qd.below W.out hb (by omega))
     replace BW:=Lib.hid ((hb.block w6.heap.size (by omega)).trans BW.out)
     replace BX0:=Lib.hid ((hb.block w8.heap.size (by omega)).trans BX0.out)
     replace BG:=Lib.hid ((hb.block w12.heap.size (by omega)).trans BG.out)
     replace G:=Lib.hid (Qg.owns_keep G.out (.of_below hb fun b o f=>by have:=f.2;omega))
     replace J:=Lib.hid (Qg.owns_keep J.out (.of_below hb fun b o f=>by have:=f.2;omega))
     replace BJ:=Lib.hid ((hb.block w31.heap.size (by omega)).trans BJ.out)
     replace T:=Lib.hid (T.out.trans (hb.mono (by omega)))
     clear hb
     have hc:=Qfw _ w12.heap.size _ v 1 (Qg.owns_reads (I:=Qf w12.heap.size) G.out fun b o f=>f.2) (by omega) vb (by omega) (by rw [KV.out];omega)
     rw [KV.out] at hc
     have HC:=Lib.hid hc
     clear hc
     have zg_0:=cell_of_row _ w12.heap.size 0 _ _ _ BG.out
     have zg_1:=cell_of_row _ w12.heap.size 1 _ _ _ BG.out
     have zg_2:=cell_of_row _ w12.heap.size 2 _ _ _ BG.out
     have zg_3:=cell_of_row _ w12.heap.size 3 _ _ _ BG.out
     have zg_4:=cell_of_row _ w12.heap.size 4 _ _ _ BG.out
     have zg_5:=cell_of_row _ w12.heap.size 5 _ _ _ BG.out
     have zg_6:=cell_of_row _ w12.heap.size 6 _ _ _ BG.out
     have zg_7:=cell_of_row _ w12.heap.size 7 _ _ _ BG.out
     have zg_8:=cell_of_row _ w12.heap.size 8 _ _ _ BG.out
     have zg_9:=cell_of_row _ w12.heap.size 9 _ _ _ BG.out
     have zg_10:=cell_of_row _ w12.heap.size 10 _ _ _ BG.out
     have zg_11:=cell_of_row _ w12.heap.size 11 _ _ _ BG.out
     have zg_12:=cell_of_row _ w12.heap.size 12 _ _ _ BG.out
     have zg_13:=cell_of_row _ w12.heap.size 13 _ _ _ BG.out
     simp only [List.getElem?_toArray,List.getElem?_cons_zero,List.getElem?_cons_succ] at zg_0 zg_1 zg_2 zg_3 zg_4 zg_5 zg_6 zg_7 zg_8 zg_9 zg_10 zg_11 zg_12 zg_13
     go_wp2_with fail
     clear zg_0 zg_1 zg_2 zg_3 zg_4 zg_5 zg_6 zg_7 zg_8 zg_9 zg_10 zg_11 zg_12 zg_13
     refine HC.out.mono ?_
     rintro e w34 ⟨rfl,hb⟩
     clear HC
     have szw34:=hb.size
     replace F0:=Lib.hid (Qd.below F0.out hb (by omega))
     replace F2:=Lib.hid (F2.out.below hb (by omega))
     replace F3:=Lib.hid (F3.out.below hb (by omega))
     replace AB0:=Lib.hid ((hb.block w.heap.size (by omega)).trans AB0.out)
     replace W:=Lib.hid (Qd.below W.out hb (by omega))
     replace BW:=Lib.hid ((hb.block w6.heap.size (by omega)).trans BW.out)
     replace BX0:=Lib.hid ((hb.block w8.heap.size (by omega)).trans BX0.out)
     replace BG:=Lib.hid ((hb.block w12.heap.size (by omega)).trans BG.out)
     replace G:=Lib.hid (Qg.owns_keep G.out (.of_below hb fun b o f=>by have:=f.2;omega))
     replace J:=Lib.hid (Qg.owns_keep J.out (.of_below hb fun b o f=>by have:=f.2;omega))
     replace BJ:=Lib.hid ((hb.block w31.heap.size (by omega)).trans BJ.out)
     replace T:=Lib.hid (T.out.trans (hb.mono (by omega)))
     clear hb
     go_wp2_with fail
     go_ret
     exact ⟨rfl,T.out⟩
   ·have hk0:(w.alloc (.cells #[.int .i64 x0.1,.slice a0_0 n0_0 c0_0,.slice a0_1 n0_1 c0_1,.bool x0.2.2.2.1,.bool x0.2.2.2.2.1,.slice a0_2 n0_2 c0_2,.slice a0_3 n0_3 c0_3,.slice a0_4 n0_4 c0_4,.slice a0_5 n0_5 c0_5,.slice a0_6 n0_6 c0_6,.slice a0_7 n0_7 c0_7,.slice a0_8 n0_8 c0_8,.int .i64 x0.2.2.2.2.2.2.2.2.2.2.2.2.1,.bool x0.2.2.2.2.2.2.2.2.2.2.2.2.2] 56 (0,0))).heap[w.heap.size]? = some (.cells #[.int .i64 x0.1,.slice a0_0 n0_0 c0_0,.slice a0_1 n0_1 c0_1,.bool x0.2.2.2.1,.bool x0.2.2.2.2.1,.slice a0_2 n0_2 c0_2,.slice a0_3 n0_3 c0_3,.slice a0_4 n0_4 c0_4,.slice a0_5 n0_5 c0_5,.slice a0_6 n0_6 c0_6,.slice a0_7 n0_7 c0_7,.slice a0_8 n0_8 c0_8,.int .i64 x0.2.2.2.2.2.2.2.2.2.2.2.2.1,.bool x0.2.2.2.2.2.2.2.2.2.2.2.2.2] 56 (0,0)):=by
     have:=heap_alloc_new w (.cells #[.int .i64 x0.1,.slice a0_0 n0_0 c0_0,.slice a0_1 n0_1 c0_1,.bool x0.2.2.2.1,.bool x0.2.2.2.2.1,.slice a0_2 n0_2 c0_2,.slice a0_3 n0_3 c0_3,.slice a0_4 n0_4 c0_4,.slice a0_5 n0_5 c0_5,.slice a0_6 n0_6 c0_6,.slice a0_7 n0_7 c0_7,.slice a0_8 n0_8 c0_8,.int .i64 x0.2.2.2.2.2.2.2.2.2.2.2.2.1,.bool x0.2.2.2.2.2.2.2.2.2.2.2.2.2] 56 (0,0))
     simpa using this
    have hb:=(Below.refl w.heap.size w).alloc (Nat.le_refl _) (.cells #[.int .i64 x0.1,.slice a0_0 n0_0 c0_0,.slice a0_1 n0_1 c0_1,.bool x0.2.2.2.1,.bool x0.2.2.2.2.1,.slice a0_2 n0_2 c0_2,.slice a0_3 n0_3 c0_3,.slice a0_4 n0_4 c0_4,.slice a0_5 n0_5 c0_5,.slice a0_6 n0_6 c0_6,.slice a0_7 n0_7 c0_7,.slice a0_8 n0_8 c0_8,.int .i64 x0.2.2.2.2.2.2.2.2.2.2.2.2.1,.bool x0.2.2.2.2.2.2.2.2.2.2.2.2.2] 56 (0,0))
    have szw1:w.heap.size+1=(w.alloc (.cells #[.int .i64 x0.1,.slice a0_0 n0_0 c0_0,.slice a0_1 n0_1 c0_1,.bool x0.2.2.2.1,.bool x0.2.2.2.2.1,.slice a0_2 n0_2 c0_2,.slice a0_3 n0_3 c0_3,.slice a0_4 n0_4 c0_4,.slice a0_5 n0_5 c0_5,.slice a0_6 n0_6 c0_6,.slice a0_7 n0_7 c0_7,.slice a0_8 n0_8 c0_8,.int .i64 x0.2.2.2.2.2.2.2.2.2.2.2.2.1,.bool x0.2.2.2.2.2.2.2.2.2.2.2.2.2] 56 (0,0))).heap.size:=by simp
    go_enter Tryz.func4,Tryz.ntmps4
    go_wp2_with fail
    generalize (w.alloc (.cells #[.int .i64 x0.1,.slice a0_0 n0_0 c0_0,.slice a0_1 n0_1 c0_1,.bool x0.2.2.2.1,.bool x0.2.2.2.2.1,.slice a0_2 n0_2 c0_2,.slice a0_3 n0_3 c0_3,.slice a0_4 n0_4 c0_4,.slice a0_5 n0_5 c0_5,.slice a0_6 n0_6 c0_6,.slice a0_7 n0_7 c0_7,.slice a0_8 n0_8 c0_8,.int .i64 x0.2.2.2.2.2.2.2.2.2.2.2.2.1,.bool x0.2.2.2.2.2.2.2.2.2.2.2.2.2] 56 (0,0)))=w1 at hb szw1 hk0 |-
    replace F0:=Lib.hid (Qd.below F0.out hb (by omega))
    replace F2:=Lib.hid (F2.out.below hb (by omega))
    replace F3:=Lib.hid (F3.out.below hb (by omega))
    replace T:=Lib.hid (T.out.trans (hb.mono (by omega)))
    have AB0:=Lib.hid hk0
    clear hb hk0
    have hc:=Qim _ _ _ x0 (1048576) F0.out (by omega) (by omega) (by omega)
    rw [U0.out,Zg (by omega)] at hc
    have HC:=Lib.hid hc
    clear hc
    refine HC.out.mono ?_
    rintro e w2 ⟨rfl,hb⟩
    clear HC
    have szw2:=hb.size
    replace F0:=Lib.hid (Qd.below F0.out hb (by omega))
    replace F2:=Lib.hid (F2.out.below hb (by omega))
    replace F3:=Lib.hid (F3.out.below hb (by omega))
    replace AB0:=Lib.hid ((hb.block w.heap.size (by omega)).trans AB0.out)
    replace T:=Lib.hid (T.out.trans (hb.mono (by omega)))
    clear hb
    go_wp2_with fail
    go_ret
    exact ⟨rfl,T.out⟩
end Go.Proofs.YtcooobnaocbdjaaGreatDoor
