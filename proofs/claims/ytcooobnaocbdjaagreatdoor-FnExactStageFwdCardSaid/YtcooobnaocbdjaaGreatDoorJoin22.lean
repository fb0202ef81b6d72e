import Derived.Test.YtcooobnaocbdjaaGreatDoorJoin7
import Derived.Test.YtcooobnaocbdjaaGreatDoorJoin21
import Derived.Test.YtcooobnaocbdjaaGreatDoorJoin9
import Derived.Test.YtcooobnaocbdjaaGreatDoorJoin1
import Derived.Test.YtcooobnaocbdjaaGreatDoorJoin18
import Derived.Test.YtcooobnaocbdjaaGreatDoorJoin5
import Derived.Deep.AppendLies
/-! YtcooobnaocbdjaaGreatDoorPVecX -/
section
set_option linter.unusedVariables false
namespace Go.Proofs.YtcooobnaocbdjaaGreatDoor
open Go.RowKit
end Go.Proofs.YtcooobnaocbdjaaGreatDoor

end

/-! YtcooobnaocbdjaaGreatDoorPDrawVec -/
section
set_option linter.unusedVariables false
namespace Go.Proofs.YtcooobnaocbdjaaGreatDoor
open Go.RowKit
theorem Zz.put {B:Nat} {w w1 w2:World} {C:Nat} {v:Value} {zs:List Int} (h:Zz B w w1 C) (hC:C<w.heap.size) (hrow:Row w.heap.size w1 v zs) (o:Obj) (hg:(w1.alloc o).grownBy w2 v.ownBlock):Zz B w w2 C:=by
 have hup:=h.1.up
 refine ⟨(h.1.alloc o).grown hg (fun k hk => ?_),?_⟩
 ·have:=(hrow.lt k hk).1
  exact ⟨by omega,by omega⟩
 ·have hs:=h.size
  refine ⟨hg.os.trans h.2.os,hg.tape.trans h.2.tape,hg.output.trans h.2.output,Nat.le_trans h.2.size (Nat.le_trans (by simp) hg.size),fun b hb hne => ?_⟩
  rw [hg.block b (by simp;omega) (fun e=>by have:=(hrow.lt b e.symm).1;omega),Below.heap_alloc _ _ _ (by omega)]
  exact h.2.block b hb hne
theorem Zz.store {B:Nat} {w w1 w2:World} {C:Nat} {g:Nat} (h:Zz B w w1 C) (hC:C<w.heap.size) (hg:w1.grownBy w2 (some g)) (hge:w.heap.size<=g):Zz B w w2 C:=by
 have hup:=h.1.up
 refine ⟨h.1.grown hg (fun k hk => ?_),?_⟩
 ·cases hk;exact ⟨by omega,by omega⟩
 ·have hs:=h.size
  refine ⟨hg.os.trans h.2.os,hg.tape.trans h.2.tape,hg.output.trans h.2.output,Nat.le_trans h.2.size hg.size,fun b hb hne => ?_⟩
  rw [hg.block b (by omega) (fun e=>by cases e;omega)]
  exact h.2.block b hb hne
theorem Row.turned {base B:Nat} {w w':World} {C:Nat} {v:Value} {zs:List Int} (h:Row base w v zs) (hC:C<base) (ht:Zz B w w' C):Row base w' v zs:=
 h.kept ht.2 (by
  cases e:v.ownBlock with
  | none=>exact .inl rfl
  | some g =>
   refine .inr fun e2 => ?_
   have:=h.lt g e
   cases e2
   omega)
theorem Row.first {base:Nat} {w:World} {v:Value} {xs:List Int} (h:Row base w v xs) (hn:0<xs.length) : ∃ g cap,v = .slice (some ⟨g,0,none⟩) xs.length cap/\base<=g/\g<w.heap.size:=by
 have hlt:=World.ownsRow.lt h
 rcases h.2 with ⟨_,h0⟩ | ⟨g,cap,cur,rfl,_⟩
 ·omega
 ·exact ⟨g,cap,rfl,hlt g rfl⟩
def Qs0 (P:List Int->Prop) (B:Nat) (w:World) (C:Nat) (e:Ending) (w':World):Prop:= ∃ v xs,e = .returned v/\P xs/\Row w.heap.size w' v xs/\Zz B w w' C
def Qsv (B:Nat) (w:World) (C:Nat) (e:Ending) (w':World):Prop:= ∃ v xs u ys,e = .returned (.tuple #[v,u])/\(xs.length<=7/\ys.length<=7)/\Row w.heap.size w' v xs/\Row w.heap.size w' u ys/\Zz B w w' C
end Go.Proofs.YtcooobnaocbdjaaGreatDoor

end

/-! YtcooobnaocbdjaaGreatDoorPLossS -/
section
set_option maxRecDepth 100000
set_option linter.unusedVariables false
namespace Go.Proofs.YtcooobnaocbdjaaGreatDoor
open Go.RowKit
theorem Qle {q:Int} (h0:0<=q) (h1:q<=2147483647):wrap64 (q.tdiv 2)=q / 2/\q.tdiv 2=q / 2:=by
 have e:q.tdiv 2=q / 2:=Int.tdiv_eq_ediv_of_nonneg h0
 exact ⟨by rw [e,IntWalk.wrap64_in _ (by omega)],e⟩
theorem Qga (w:World) (a1:Option Addr) (n1 c1:Nat) (xs:List Int) (a2:Option Addr) (n2 c2:Nat) (ys:List Int) (h1:IntsIn w.heap.size w a1 n1 xs) (h2:IntsIn w.heap.size w a2 n2 ys) :
  Calls Tryz.prog 75 #[.slice a1 n1 c1,.slice a2 n2 c2] w (NumB w (Qce xs ys) (Qes xs ys)):=by
 have H1:=Lib.hid (Qf4 w a1 n1 c1 xs a2 n2 c2 ys h1 h2)
 clear h1 h2
 have h6:=Qe4 subN xs ys
 obtain ⟨D,hD⟩ : ∃ D,rowP subN xs ys=D:=⟨_,rfl⟩
 obtain ⟨n,hn⟩ : ∃ n,D.length=n:=⟨_,rfl⟩
 obtain ⟨q,hq⟩ : ∃ q,dotN D D=q:=⟨_,rfl⟩
 obtain ⟨o,ho⟩ : ∃ o,dotB D D=o:=⟨_,rfl⟩
 obtain ⟨f,hf⟩ : ∃ f,Qbi subB xs ys=f:=⟨_,rfl⟩
 have hq0:0<=q:=by rw [<- hq];exact Qgx D
 have hq1:q<=2147483647:=by rw [<- hq];exact (Qgy D D).2
 have ht:=Qle hq0 hq1
 have HV:=fun (w:World) (a:Option Addr) (c:Nat) (h:IntsIn w.heap.size w a n D)=>Qc5 w a n c D a n c D h h
 unfold Qce Qes
 rw [hD] at H1 h6 |-
 rw [hn] at h6
 rw [hf] at H1
 simp only [hq,ho] at HV
 rw [hq,ho,hf]
 obtain ⟨Q,hQ⟩ : ∃ Q,q / 2=Q:=⟨_,rfl⟩
 rw [hQ] at ht |-
 obtain ⟨t1,t2⟩:=ht
 have t3:wrap64 Q=Q:=by rw [t2] at t1;exact t1
 have HN:=Lib.hid hn
 replace HV:=Lib.hid HV
 clear hD hn hq ho hf hq0 hq1 hQ
 cases f
 ·go_enter Tryz.func75,Tryz.ntmps75
  go_wp2_with fail
  refine H1.out.mono ?_
  rintro e w1 ⟨v,rfl,hr,hb⟩
  obtain ⟨a,c,rfl,hi⟩:=hr.form' HN (by omega)
  have HI:=Lib.hid hi
  have HB:=Lib.hid hb
  clear hr hi hb
  go_wp2_with fail
  refine (HV.out w1 a c HI.out).mono ?_
  rintro e w2 ⟨rfl,hb2⟩
  have HB2:=Lib.hid (HB.out.trans (hb2.mono HB.out.size))
  clear hb2
  go_wp2_with fail
  go_ret2
  exact ⟨by simp [t3],HB2.out⟩
 ·go_enter Tryz.func75,Tryz.ntmps75
  go_wp2_with fail
  refine H1.out.mono ?_
  rintro e w1 ⟨v,rfl,hr,hb⟩
  obtain ⟨a,c,rfl,hi⟩:=hr.form' HN (by omega)
  have HI:=Lib.hid hi
  have HB:=Lib.hid hb
  clear hr hi hb
  go_wp2_with fail
  refine (HV.out w1 a c HI.out).mono ?_
  rintro e w2 ⟨rfl,hb2⟩
  have HB2:=Lib.hid (HB.out.trans (hb2.mono HB.out.size))
  clear hb2
  go_wp2_with fail
  go_ret2
  exact ⟨by simp [t3],HB2.out⟩
end Go.Proofs.YtcooobnaocbdjaaGreatDoor

end

/-! YtcooobnaocbdjaaGreatDoorPLossI -/
section
set_option maxRecDepth 100000
set_option linter.unusedVariables false
namespace Go.Proofs.YtcooobnaocbdjaaGreatDoor
open Go.RowKit
theorem Qgb (w:World) (a1:Option Addr) (n1 c1:Nat) (xs:List Int) (a2:Option Addr) (n2 c2:Nat) (ys:List Int) (h1:IntsIn w.heap.size w a1 n1 xs) (h2:IntsIn w.heap.size w a2 n2 ys) (hg:Z0 w) :
  Calls Tryz.prog 144 #[.slice a1 n1 c1,.slice a2 n2 c2] w (NumB w (Qce xs ys) (Qes xs ys)):=by
 have H1:=Lib.hid (Qf3 w a1 n1 c1 xs a2 n2 c2 ys h1 h2 hg)
 have hlt:=hg.lt
 have HG:=Lib.hid hg
 clear h1 h2 hg
 have h6:=Qe4 subN xs ys
 obtain ⟨D,hD⟩ : ∃ D,rowP subN xs ys=D:=⟨_,rfl⟩
 obtain ⟨n,hn⟩ : ∃ n,D.length=n:=⟨_,rfl⟩
 obtain ⟨q,hq⟩ : ∃ q,dotN D D=q:=⟨_,rfl⟩
 obtain ⟨o,ho⟩ : ∃ o,dotB D D=o:=⟨_,rfl⟩
 obtain ⟨f,hf⟩ : ∃ f,Qbi subB xs ys=f:=⟨_,rfl⟩
 have hq0:0<=q:=by rw [<- hq];exact Qgx D
 have hq1:q<=2147483647:=by rw [<- hq];exact (Qgy D D).2
 have ht:=Qle hq0 hq1
 have HV:=fun (w:World) (a:Option Addr) (c:Nat) (h:IntsIn w.heap.size w a n D) (hg:Z0 w)=>Qc3 w a n c D a n c D h h hg
 unfold Qce Qes
 rw [hD] at H1 h6 |-
 rw [hn] at h6
 rw [hf] at H1
 simp only [hq,ho] at HV
 rw [hq,ho,hf]
 obtain ⟨Q,hQ⟩ : ∃ Q,q / 2=Q:=⟨_,rfl⟩
 rw [hQ] at ht |-
 obtain ⟨t1,t2⟩:=ht
 have t3:wrap64 Q=Q:=by rw [t2] at t1;exact t1
 have HN:=Lib.hid hn
 replace HV:=Lib.hid HV
 clear hD hn hq ho hf hq0 hq1 hQ
 cases f
 ·go_enter Tryz.func144,Tryz.ntmps144
  go_wp2_with fail
  refine H1.out.mono ?_
  rintro e w1 ⟨v,rfl,hr,hb⟩
  obtain ⟨a,c,rfl,hi⟩:=hr.form' HN (by omega)
  have HI:=Lib.hid hi
  have HB:=Lib.hid hb
  clear hr hi hb
  go_wp2_with fail
  refine (HV.out w1 a c HI.out (HG.out.below hlt HB.out)).mono ?_
  rintro e w2 ⟨rfl,hb2⟩
  have HB2:=Lib.hid (HB.out.trans (hb2.mono HB.out.size))
  clear hb2
  go_wp2_with fail
  go_ret2
  exact ⟨by simp [t3],HB2.out⟩
 ·go_enter Tryz.func144,Tryz.ntmps144
  go_wp2_with fail
  refine H1.out.mono ?_
  rintro e w1 ⟨v,rfl,hr,hb⟩
  obtain ⟨a,c,rfl,hi⟩:=hr.form' HN (by omega)
  have HI:=Lib.hid hi
  have HB:=Lib.hid hb
  clear hr hi hb
  go_wp2_with fail
  refine (HV.out w1 a c HI.out (HG.out.below hlt HB.out)).mono ?_
  rintro e w2 ⟨rfl,hb2⟩
  have HB2:=Lib.hid (HB.out.trans (hb2.mono HB.out.size))
  clear hb2
  go_wp2_with fail
  go_ret2
  exact ⟨by simp [t3],HB2.out⟩
end Go.Proofs.YtcooobnaocbdjaaGreatDoor

end

/-! YtcooobnaocbdjaaGreatDoorPStgW -/
section
set_option maxRecDepth 100000
set_option maxHeartbeats 6400000
set_option linter.unusedSimpArgs false
set_option linter.unusedVariables false
namespace Go.Proofs.YtcooobnaocbdjaaGreatDoor
open Go.RowKit Go.Sort
theorem Qh5 (w:World) (ar:Option Addr) (nr cr:Nat) (L:Int) (S:Bool) (ay:Option Addr) (ny cy:Nat) (Y:List Int) (hy:IntsIn w.heap.size w ay ny Y) (at':Option Addr) (nt ct:Nat) (T:List Int) (ht:IntsIn w.heap.size w at' nt T) (hg:Z0 w) :
  Calls Tryz.prog 54 #[.agg #[.slice ar nr cr,.int .i64 L,.bool S],.slice ay ny cy,.slice at' nt ct] w fun e w'=>e = .returned (.agg #[.slice ar nr cr,.int .i64 (addN L (Qce Y T)),.bool (S || Qes Y T || addB L (Qce Y T))])/\Below w.heap.size w w':=by
 have hal:Below w.heap.size w (w.alloc (.cells #[.slice ar nr cr,.int .i64 L,.bool S] 30 (0,0))):=(Below.refl _ _).alloc (Nat.le_refl _) _
 have hk0:=heap_alloc_new w (.cells #[.slice ar nr cr,.int .i64 L,.bool S] 30 (0,0))
 have hs0:(w.alloc (.cells #[.slice ar nr cr,.int .i64 L,.bool S] 30 (0,0))).heap.size=w.heap.size+1:=by simp
 have hal2:=hal.alloc hal.size (.cells #[.slice none 0 0,.int .i64 0,.bool false] 30 (0,0))
 have hz:=heap_alloc_new (w.alloc (.cells #[.slice ar nr cr,.int .i64 L,.bool S] 30 (0,0))) (.cells #[.slice none 0 0,.int .i64 0,.bool false] 30 (0,0))
 rw [hs0] at hz
 have hk1:((w.alloc (.cells #[.slice ar nr cr,.int .i64 L,.bool S] 30 (0,0))).alloc (.cells #[.slice none 0 0,.int .i64 0,.bool false] 30 (0,0))).heap[w.heap.size]? = some (.cells #[.slice ar nr cr,.int .i64 L,.bool S] 30 (0,0)):=by
  rw [Below.heap_alloc _ _ _ (by rw [hs0];omega)]
  exact hk0
 have hlt:=hg.lt
 have HCL:=Lib.hid fun (wx:World) (hx:Below w.heap.size w wx)=>Qgb wx ay ny cy Y at' nt ct T ((hy.below hx (Nat.le_refl _)).le hx.size) ((ht.below hx (Nat.le_refl _)).le hx.size) (hg.below hlt hx)
 have HGX:=Lib.hid fun (wx:World) (hx:Below w.heap.size w wx)=>(hg.below hlt hx:Z0 wx)
 obtain ⟨LN,hLN⟩ : ∃ q,Qce Y T=q:=⟨_,rfl⟩
 obtain ⟨LB,hLB⟩ : ∃ q,Qes Y T=q:=⟨_,rfl⟩
 rw [hLN,hLB]
 simp only [hLN,hLB] at HCL
 obtain ⟨V,hV⟩ : ∃ q,(S || LB || addB L LN)=q:=⟨_,rfl⟩
 rw [hV]
 obtain ⟨B,hB⟩ : ∃ q,addB L LN=q:=⟨_,rfl⟩
 obtain ⟨SU,hSU⟩ : ∃ q,addN L LN=q:=⟨_,rfl⟩
 rw [hB] at hV
 have HFA:=Lib.hid fun (wx:World) (hx:Below w.heap.size w wx)=>Qam L LN wx (hg.below hlt hx)
 rw [hSU]
 simp only [hB,hSU] at HFA
 have HV:=Lib.hid hV
 have HA:=Lib.hid hal2
 have K1:=Lib.hid hk1
 have HZ:=Lib.hid hz
 clear hal hal2 hk0 hk1 hz hs0 hg hlt hLN hLB hV hB hSU hy ht HGX
 go_enter Tryz.func54,Tryz.ntmps54
 go_upto_region 1 with fail
 generalize (w.alloc (.cells #[.slice ar nr cr,.int .i64 L,.bool S] 30 (0,0))).alloc (.cells #[.slice none 0 0,.int .i64 0,.bool false] 30 (0,0))=wa at HA K1 HZ |-
 have KP:=Lib.hid fun (wx:World) (hx:Below wa.heap.size wa wx)=>(show wx.heap[w.heap.size]? = _ from (hx.block _ (Array.getElem?_eq_some_iff.1 K1.out).1).trans K1.out)
 have KZ:=Lib.hid fun (wx:World) (hx:Below wa.heap.size wa wx)=>(show wx.heap[w.heap.size+1]? = _ from (hx.block _ (Array.getElem?_eq_some_iff.1 HZ.out).1).trans HZ.out)
 go_wp2_with fail
 refine (HCL.out wa HA.out).mono ?_
 rintro e w1 ⟨rfl,hb⟩
 have B1:=Lib.hid hb
 clear hb
 have z1:=Qa (KP.out w1 B1.out) 1 _ rfl
 go_wp2_with fail
 refine (HFA.out w1 (HA.out.trans (B1.out.mono HA.out.size))).mono ?_
 rintro e w2 ⟨rfl,hb⟩
 have B2:=Lib.hid (B1.out.trans (hb.mono B1.out.size))
 clear hb z1 B1
 have z0:=Qa (KP.out w2 B2.out) 0 _ rfl
 have z2:=Qa (KP.out w2 B2.out) 2 _ rfl
 have y0:=Qa (KZ.out w2 B2.out) 0 _ rfl
 have y1:=Qa (KZ.out w2 B2.out) 1 _ rfl
 have y2:=Qa (KZ.out w2 B2.out) 2 _ rfl
 have f0:w2.frozen? ⟨w.heap.size+1,0,none⟩=false:=frozen_of_row _ _ _ _ _ (KZ.out w2 B2.out)
 have f1:w2.frozen? ⟨w.heap.size+1,1,none⟩=false:=frozen_of_row _ _ _ _ _ (KZ.out w2 B2.out)
 have f2:w2.frozen? ⟨w.heap.size+1,2,none⟩=false:=frozen_of_row _ _ _ _ _ (KZ.out w2 B2.out)
 have q1:=heap_setCell_same w2 (w.heap.size+1) 0 _ _ (.slice ar nr cr) (KZ.out w2 B2.out)
 have q2:=heap_setCell_same _ (w.heap.size+1) 1 _ _ (.int .i64 SU) q1
 have q3:=heap_setCell_same _ (w.heap.size+1) 2 _ _ (.bool V) q2
 simp only [List.setIfInBounds_toArray,List.set_cons_zero,List.set_cons_succ] at q3
 have E1:=Lib.hid q3
 have FB:=Lib.hid ((((HA.out.trans (B2.out.mono HA.out.size)).setCell (p:=⟨w.heap.size+1,0,none⟩) (by show w.heap.size<=w.heap.size+1;omega) (.slice ar nr cr)).setCell (p:=⟨w.heap.size+1,1,none⟩) (by show w.heap.size<=w.heap.size+1;omega) (.int .i64 SU)).setCell (p:=⟨w.heap.size+1,2,none⟩) (by show w.heap.size<=w.heap.size+1;omega) (.bool V))
 clear q1 q2 q3
 cases S <;> cases LB
 all_goals
  have hv:=HV.out
  simp only [Bool.or_true,Bool.or_false,Bool.true_or,Bool.false_or] at hv
  subst hv
  clear HV
  go_wp2_with fail
  refine bodyPost_ret (results_cell_row rfl _ _ (w.heap.size+1) 30 _ (0,0) _ rfl E1.out Tryz.underlying30 rfl (by kernel_rfl)) rfl ?_
  exact ⟨rfl,FB.out⟩
end Go.Proofs.YtcooobnaocbdjaaGreatDoor

end

/-! YtcooobnaocbdjaaGreatDoorPPutQ -/
section
set_option linter.unusedVariables false
namespace Go.Proofs.YtcooobnaocbdjaaGreatDoor
open Go.RowKit
theorem Qel {l:List Int} : ∀ u∈Qp l,u.oneCell'=true:=by
 intro u hu
 obtain ⟨x,-,rfl⟩:=List.mem_map.1 hu
 rfl
theorem Qem {B:Nat} {w:World} {ad:Addr} {m:Nat} {ys:List Int} (h:IntsIn B w (some ad) m ys) : ∀ j u,(Qp ys)[j]? = some u->w.cell? (ad.add j)=some u:=fun j u hu=>by
 have hj:j<ys.length:=by have:=(List.getElem?_eq_some_iff.1 hu).1;rwa [Z5] at this
 obtain ⟨b,o,e,-,hc⟩:=h.cells j (by rw [<- h.len];exact hj)
 cases e
 rw [Qbp ys j hj] at hu
 cases hu
 rw [Addr.add_mid]
 exact hc
theorem Qb8 {P:Program} (w:World) (t ty e:TypeId) (i:TypeInfo) (ht:P.underlying t=some (.slice e)) (hi:P.info? e=some i) (g n cap c:Nat) (h:n<=cap) :
  (Builtin.append_ #[t,t] ty #[.slice (some ⟨g,0,none⟩) n cap,.slice none 0 c]).run P w = .ok (.slice (some ⟨g,0,none⟩) n cap) w:=by
 simp [Builtin.append_,run_underlying ht,sizeOf,typeInfo,hi,Builtin.lenOf,h,run_firstCells_none,Addr.add_lit,storeCells]
theorem Qap {P:Program} (w:World) (t ty e:TypeId) (i:TypeInfo) (ht:P.underlying t=some (.slice e)) (hi:P.info? e=some i) (c:Nat) :
  (Builtin.append_ #[t,t] ty #[.slice none 0 0,.slice none 0 c]).run P w = .ok (.slice none 0 0) w:=by
 simp [Builtin.append_,run_underlying ht,sizeOf,typeInfo,hi,Builtin.lenOf,run_firstCells_none]
theorem Zv (w:World) {ops:Array Oper} {o:Oper} {a:Act} {K:Act->World->Prop} {Q:Exit->Act->World->Prop} {E:Prop} (hgd:o.guard=none) (s x:Operand)
  (ho:o.op = .call { callee:= .builtin .append,args:=#[s,x],argTypes:=#[28,28] }) (base:Nat) (v:Value) (xs:List Int) (hs:a.eval s=v) (hown:Row base w v xs)
  (ad:Option Addr) (m c B:Nat) (ys:List Int) (hx:a.eval x = .slice ad m c) (hin:IntsIn B w ad m ys) (hlen:xs.length<=1048576) (hbase:base<=w.heap.size)
  (h : ∀ ar nr cr w',Row base w' (.slice ar nr cr) (xs ++ ys)->w.grownBy w' v.ownBlock->K (a.put o.dst (.slice ar nr cr)) w') :
  if Region.wanted o (yielded ops a.tmps)=true then Oper.wp Tryz.prog o a w K Q else E:=by
 have hw:Region.wanted o (yielded ops a.tmps)=true:=by simp [Region.wanted,hgd]
 rw [if_pos hw]
 obtain ⟨i0,hi,hz0,hz1,hz2⟩:=info_parts Tryz.infoI64
 have hm:=hin.room
 cases ad with
 | none =>
  obtain rfl:m=0:=by
   rcases Nat.eq_zero_or_pos m with e | e
   ·exact e
   ·obtain ⟨b,o',e',-⟩:=hin.cells 0 e
    cases e'
  obtain rfl:ys=[]:=List.eq_nil_of_length_eq_zero hin.len
  rw [List.append_nil] at h
  have hv:v = .slice none 0 0 \/ ∃ g n cap,v = .slice (some ⟨g,0,none⟩) n cap/\n<=cap:=by
   rcases hown.2 with ⟨e,-⟩ | ⟨g,cap,cur,e,-,-,hc,-⟩
   ·exact .inl e
   ·exact .inr ⟨g,_,cap,e,hc⟩
  rcases hv with rfl | ⟨g,n,cap,rfl,hc⟩
  ·have hr:=Qap (P:=Tryz.prog) w 28 o.type 3 i0 Tryz.underlying28 hi c
   unfold Oper.wp execOp
   simp only [ho,resolve,invoke,builtin,Sem.run_bind,Sem.run_pure,Result.andThen_ok,List.map_toArray,List.map_cons,List.map_nil,hs,hx,hr]
   exact h _ _ _ w hown (World.grownBy.refl _ _)
  ·have hr:=Qb8 (P:=Tryz.prog) w 28 o.type 3 i0 Tryz.underlying28 hi g n cap c hc
   unfold Oper.wp execOp
   simp only [ho,resolve,invoke,builtin,Sem.run_bind,Sem.run_pure,Result.andThen_ok,List.map_toArray,List.map_cons,List.map_nil,hs,hx,hr]
   exact h _ _ _ w hown (World.grownBy.refl _ _)
 | some ad =>
  refine wp_append_own w s x 28 ho base 3 i0 (.int .i64 0) 1 8 Tryz.underlying28 hi hz0 hz1 hz2 rfl (by decide) v xs.length (Qp xs) hs hown ad m c (Qp ys) hx (by rw [Z5,hin.len,Nat.mul_one]) (Qem hin) Qel (by unfold maxLen;omega) (by omega) hbase ?_
  intro v' w' hown' hg _
  have hr:Row base w' v' (xs ++ ys):=by
   unfold Row
   rw [List.length_append,Qau,hin.len]
   exact hown'
  obtain ⟨ar,cr,e,-⟩:=hr.form
  subst e
  exact h _ _ _ w' hr hg
theorem Qkn {w w':World} {row:Option Nat} (h:w.grownBy w' row) {g i:Nat} {cs:Array Value} {T0:TypeId} (u:Value) (hg:g<w.heap.size) (ho:w.heap[g]? = some (.cells cs T0 (0,0))) (hne:row≠some g) :
  (w.setCell ⟨g,i,none⟩ u).grownBy (w'.setCell ⟨g,i,none⟩ u) row:=by
 refine ⟨h.os,h.tape,h.output,by simpa using h.size,fun k hk hr => ?_⟩
 rw [World.size_setCell] at hk
 by_cases e:k=g
 ·subst e
  rw [heap_setCell_same w k i _ _ u ho,heap_setCell_same w' k i _ _ u ((h.block k hk hr).trans ho)]
 ·rw [heap_setCell_other _ _ _ _ (by exact e),heap_setCell_other _ _ _ _ (by exact e)]
  exact h.block k hk hr
theorem Jn {lo size n:Nat} {T:TypeId} {w:World} {v:Value} {us:List Value} (h:w.ownsRow lo T size v n us) {g:Nat} (i:Nat) (u:Value) (hg : ∀ k,v.ownBlock=some k->k≠g):(w.setCell ⟨g,i,none⟩ u).ownsRow lo T size v n us:=by
 refine ⟨h.1,h.2.imp id ?_⟩
 rintro ⟨k,cap,cur,rfl,e1,e2,e3⟩
 exact ⟨k,cap,cur,rfl,e1,(heap_setCell_other _ _ _ _ (by exact hg k rfl)).trans e2,e3⟩
theorem ListL.putSet {α:Type} {S:Owned α} {T:TypeId} {lo hi:Nat} {w w':World} {v v':Value} {xs:List α} {es:List Value} {x:α} {F:Foot} {o:Obj} {us:List Value} {G:Nat->Foot} (hlo:lo<=hi)
  (h1:w.ownsRow lo T S.size v xs.length us) (h2 : ∀ g,v.ownBlock=some g->g<hi) (hh:hi<=w.heap.size) (h3 : ∀ j x,xs[j]? = some x -> ∃ es,(∀ i u,es[i]? = some u->us[j*S.size+i]? = some u)/\S.owns (G j) w es x)
  (h4 : ∀ j b o,G j b o->lo<=b/\b<hi/\v.ownBlock≠some b) (h5 : ∀ j j',j≠j'->Zp (G j) (G j'))
  (hs:S.owns F w es x) (hF : ∀ b o,F b o->hi<=b/\b<w.heap.size) (hl:es.length=S.size)
  (hown:w'.ownsRow lo T S.size v' (xs.length+1) (us ++ es)) (hg:(w.alloc o).grownBy w' v.ownBlock) (hv:v'.ownBlock=v.ownBlock\/v'.ownBlock=some (w.alloc o).heap.size)
  (g i:Nat) (u:Value) {cs:Array Value} {T0:TypeId} (hg0:hi<=g) (hg1:g<w.heap.size) (hF0 : ∀ b o,F b o->b≠g) (ho:w.heap[g]? = some (.cells cs T0 (0,0))) :
  ListL S T lo (w'.setCell ⟨g,i,none⟩ u).heap.size (w'.setCell ⟨g,i,none⟩ u) v' (xs ++ [x]):=by
 have hsz:(w.alloc o).heap.size=w.heap.size+1:=by simp
 have hne : ∀ k,v.ownBlock=some k->k≠g:=fun k hk e=>by have:=h2 k hk;omega
 have hsame : ∀ F':Foot,(∀ b o,F' b o->b≠g)->Qaf F' w (w.setCell ⟨g,i,none⟩ u):=fun F' hF' =>
  (Touched.set (F:=fun b _=>b=g) w g i u rfl).same fun b o f f'=>hF' b o f' f
 refine (ListL.put (w:=w.setCell ⟨g,i,none⟩ u) (w':=w'.setCell ⟨g,i,none⟩ u) (o:=o) (F:=F) (G:=G) (us:=us) (es:=es) hlo (Jn h1 i u hne) h2 (by simpa using hh)
  (fun j y hy => ?_) h4 h5 (S.owns_keep hs (hsame F hF0)) (fun b o f=>by simpa using hF b o f) hl (Jn hown i u fun k hk => ?_) ?_ (by simpa using hv)).1
 ·obtain ⟨es',q1,q2⟩:=h3 j y hy
  exact ⟨es',q1,S.owns_keep q2 (hsame (G j) fun b o f e=>by have:=(h4 j b o f).2.1;omega)⟩
 ·rcases hv with e | e
  ·exact hne k (e ▸ hk)
  ·rw [e] at hk
   have:(w.alloc o).heap.size=k:=by simpa using hk
   omega
 ·have:=Qkn (i:=i) hg u (g:=g) (by omega) ((heap_alloc_old w o hg1).trans ho) (fun e=>hne g e rfl)
  rwa [World.setCell_alloc_past o g i u hg1] at this
theorem Zr (w0:World) {α:Type} {S:Owned α} {T Ts:TypeId} {ops:Array Oper} {o:Oper} {a:Act} {K:Act->World->Prop} {Q:Exit->Act->World->Prop} {E:Prop} (hgd:o.guard=none) (s x:Operand)
  (ho:o.op = .call { callee:= .builtin .append,args:=#[s,x],argTypes:=#[Ts,Ts] }) (i:TypeInfo) (z:Value) (bytes:Nat) (ht:Tryz.prog.underlying Ts=some (.slice T)) (hi:Tryz.prog.info? T=some i) (hz:i.zero=some z)
  (hsize:i.size=S.size) (hby:i.bytes=bytes) (hzs:z.cells.size=S.size) (hsz:0<S.size) (hbb:bytes<=1000) (lo hi':Nat) (hlo:lo<=hi') (v:Value) (xs:List α) (y:α) (es:List Value) (F:Foot) (hs:a.eval s=v) (hl:ListL S T lo hi' w0 v xs)
  (hown:S.owns F w0 es y) (hF : ∀ b o,F b o->hi'<=b/\b<w0.heap.size) (hone : ∀ u∈es,u.oneCell'=true) (hx:a.eval x = .slice (some ⟨w0.heap.size,0,none⟩) 1 1) (hlen:xs.length<=1048576)
  (h : ∀ ar nr cr w',ListL S T lo w'.heap.size w' (.slice ar nr cr) (xs ++ [y])->Below lo w0 w'->w0.grownBy w' v.ownBlock ->
   Hid (∀ (g i:Nat) (u:Value) (cs:Array Value) (T0:TypeId),hi'<=g->g<w0.heap.size->(∀ b o,F b o->b≠g)->w0.heap[g]? = some (.cells cs T0 (0,0))->ListL S T lo (w'.setCell ⟨g,i,none⟩ u).heap.size (w'.setCell ⟨g,i,none⟩ u) (.slice ar nr cr) (xs ++ [y]))->K (a.put o.dst (.slice ar nr cr)) w') :
  if Region.wanted o (yielded ops a.tmps)=true then Oper.wp Tryz.prog o a (w0.alloc (.cells es.toArray T (0,0))) K Q else E:=by
 have hle:=S.owns_len hown
 obtain ⟨us,G,q1,q2,q3,q4,q5⟩:=hl.all
 have hb0:(xs.length+1)*bytes<=1048577*1000:=Nat.mul_le_mul (by omega) hbb
 refine step_append_lies (w0.alloc (.cells es.toArray T (0,0))) hgd s x Ts ho lo T i z S.size bytes ht hi hz hsize hby hzs hsz v xs.length us hs (q1.alloc _) ⟨w0.heap.size,0,none⟩ 1 1 es hx (by rw [hle,Nat.one_mul]) (fun j u hu=>by
  rw [Addr.add_lit,cell_of_row _ _ _ _ _ _ (heap_alloc_new w0 _)]
  simpa using hu) hone (by decide) (by unfold maxLen;omega) (by omega) (by simp;have:=hl.top;omega) _ rfl ?_
 intro g cap w' hown' hg hat hlt
 have hv':(Value.slice (some ⟨g,0,none⟩) (xs.length+1) cap).ownBlock=v.ownBlock\/(Value.slice (some ⟨g,0,none⟩) (xs.length+1) cap).ownBlock=some (w0.alloc (.cells es.toArray T (0,0))).heap.size:=by
  rcases hat with e | e
  ·exact .inl e.symm
  ·exact .inr (congrArg some e)
 have hset:=Lib.hid fun (g' i:Nat) (u:Value) (cs:Array Value) (T0:TypeId) (hg0:hi'<=g') (hg1:g'<w0.heap.size) (hF0 : ∀ b o,F b o->b≠g') (ho':w0.heap[g']? = some (.cells cs T0 (0,0))) =>
  ListL.putSet (S:=S) (T:=T) (lo:=lo) (hi:=hi') (w:=w0) (w':=w') (v:=v) (v':= .slice (some ⟨g,0,none⟩) (xs.length+1) cap) (xs:=xs) (o:= .cells es.toArray T (0,0)) (x:=y) (F:=F)
   hlo q1 q2 hl.top q3 q4 q5 hown hF hle hown' hg hv' g' i u hg0 hg1 hF0 ho'
 have hp:=ListL.put (S:=S) (T:=T) (lo:=lo) (hi:=hi') (w:=w0) (w':=w') (v:=v) (v':= .slice (some ⟨g,0,none⟩) (xs.length+1) cap) (xs:=xs) (o:= .cells es.toArray T (0,0)) (x:=y) (F:=F)
  hlo q1 q2 hl.top q3 q4 q5 hown hF hle hown' hg (by
   rcases hat with e | e
   ·exact .inl e.symm
   ·exact .inr (congrArg some e))
 refine h _ _ _ w' hp.1 hp.2 ⟨hg.os.trans rfl,hg.tape.trans rfl,hg.output.trans rfl,Nat.le_trans (by simp) hg.size,fun b hb hne=>(hg.block b (by simp;omega) hne).trans (heap_alloc_old w0 _ hb)⟩ hset
theorem Ju {o:Oper} {ys:Nat->Option Bool} {X:Prop} (hgd:o.guard=none) (h:if Region.wanted o ys=true then X else True):X:=by
 rwa [if_pos (by simp [Region.wanted,hgd])] at h
end Go.Proofs.YtcooobnaocbdjaaGreatDoor

end

/-! YtcooobnaocbdjaaGreatDoorPKeepL -/
section
set_option linter.unusedVariables false
namespace Go.Proofs.YtcooobnaocbdjaaGreatDoor
open Go.RowKit
theorem ListL.keepB {α:Type} {S:Owned α} {T:TypeId} {lo hi:Nat} {w w':World} {v:Value} {xs:List α} (h:ListL S T lo hi w v xs) (hk : ∀ b,lo<=b->b<hi->w'.heap[b]? = w.heap[b]?) (hs:hi<=w'.heap.size):ListL S T lo hi w' v xs:=by
 obtain ⟨us,G,h1,h2,h3,h4,h5⟩:=h.all
 refine ⟨hs,us,G,⟨h1.1,h1.2.imp id ?_⟩,h2,fun j x hx => ?_,h4,h5⟩
 ·rintro ⟨g,cap,cur,rfl,e1,e2,e3⟩
  exact ⟨g,cap,cur,rfl,e1,(hk g e1 (h2 g rfl)).trans e2,e3⟩
 ·obtain ⟨es,q1,q2⟩:=h3 j x hx
  refine ⟨es,q1,S.owns_keep q2 fun b o f => ?_⟩
  have q:=h4 j b o f
  have e:=hk b q.1 q.2.1
  exact ⟨World.cell?_of_block (a:=⟨b,o,none⟩) e,World.frozen?_of_block (a:=⟨b,o,none⟩) e⟩
theorem ListL.far {α:Type} {S:Owned α} {T:TypeId} {lo hi:Nat} {w:World} {v:Value} {xs:List α} (h:ListL S T lo hi w v xs) (g i:Nat) (u:Value) (hg:hi<=g):ListL S T lo hi (w.setCell ⟨g,i,none⟩ u) v xs:=
 h.keepB (fun b _ hb=>heap_setCell_other _ _ _ _ (by show b≠g;omega)) (by simpa using h.top)
theorem Qw {P:Program} {ops:Array Oper} {rest:List Oper} {o:Oper} {a:Act} {w:World} {Q:Exit->Act->World->Prop} (hg:o.guard=none)
  (h : ∀ K:Act->World->Prop,(∀ a' w',wpList P ops Q rest a' w'->K a' w')->Oper.wp P o a w K Q):wpList P ops Q (o::rest) a w:=
 wpList_plain hg h
theorem Qko {B:Nat} {w:World} {ad:Addr} {m:Nat} {ys:List dTwo} (h:TwoIn B w (some ad) m ys) : ∀ j u,(Zq ys)[j]? = some u->w.cell? (ad.add j)=some u:=fun j u hu=>by
 have hj:j<ys.length*2:=by have:=(List.getElem?_eq_some_iff.1 hu).1;rwa [Jj] at this
 obtain ⟨b,o,e,-,hc0,hc1⟩:=h.cells (j / 2) (by rw [<- h.len];omega)
 cases e
 rw [Addr.add_mid]
 rcases Nat.mod_two_eq_zero_or_one j with hm | hm
 ·have hjj:j=j / 2*2:=by omega
  rw [hjj,Qa4 ys (j / 2) (by omega)] at hu
  cases hu
  rw [hjj]
  have e2:j / 2*2 / 2=j / 2:=by omega
  rw [e2]
  exact hc0
 ·have hjj:j=j / 2*2+1:=by omega
  rw [hjj,Qa5 ys (j / 2) (by omega)] at hu
  cases hu
  rw [hjj]
  have e2:(j / 2*2+1) / 2=j / 2:=by omega
  rw [e2]
  exact hc1
theorem TwoIn.nil {B:Nat} {w:World} {m:Nat} {ys:List dTwo} (h:TwoIn B w none m ys):m=0/\ys=[]:=by
 have hm:m=0:=by
  rcases Nat.eq_zero_or_pos m with e | e
  ·exact e
  ·obtain ⟨b,o',e',-⟩:=h.cells 0 e
   cases e'
 subst hm
 exact ⟨rfl,List.eq_nil_of_length_eq_zero h.len⟩
theorem Qcl (w:World) {T Ts:TypeId} {ops:Array Oper} {o:Oper} {a:Act} {K:Act->World->Prop} {Q:Exit->Act->World->Prop} {E:Prop} (hgd:o.guard=none) (s x:Operand)
  (ho:o.op = .call { callee:= .builtin .append,args:=#[s,x],argTypes:=#[Ts,Ts] }) (i:TypeInfo) (z:Value) (ht:Tryz.prog.underlying Ts=some (.slice T)) (hi:Tryz.prog.info? T=some i) (hz:i.zero=some z) (hsize:i.size=2) (hby:i.bytes=16) (hzs:z.cells.size=2)
  (base:Nat) (v:Value) (xs:List dTwo) (hs:a.eval s=v) (hown:TwoR T base w v xs)
  (ad:Option Addr) (m c B:Nat) (ys:List dTwo) (hx:a.eval x = .slice ad m c) (hin:TwoIn B w ad m ys) (hlen:xs.length<=1048576) (hbase:base<=w.heap.size)
  (h : ∀ ar nr cr w',TwoR T base w' (.slice ar nr cr) (xs ++ ys)->w.grownBy w' v.ownBlock->K (a.put o.dst (.slice ar nr cr)) w') :
  if Region.wanted o (yielded ops a.tmps)=true then Oper.wp Tryz.prog o a w K Q else E:=by
 have hw:Region.wanted o (yielded ops a.tmps)=true:=by simp [Region.wanted,hgd]
 rw [if_pos hw]
 have hm:=hin.room
 cases ad with
 | none =>
  obtain ⟨rfl,rfl⟩:=hin.nil
  rw [List.append_nil] at h
  have hv:v = .slice none 0 0 \/ ∃ g n cap,v = .slice (some ⟨g,0,none⟩) n cap/\n<=cap:=by
   rcases hown.2 with ⟨e,-⟩ | ⟨g,cap,cur,e,-,-,hc,-⟩
   ·exact .inl e
   ·exact .inr ⟨g,_,cap,e,hc⟩
  rcases hv with rfl | ⟨g,n,cap,rfl,hc⟩
  ·have hr:=Qap (P:=Tryz.prog) w Ts o.type T i ht hi c
   unfold Oper.wp execOp
   simp only [ho,resolve,invoke,builtin,Sem.run_bind,Sem.run_pure,Result.andThen_ok,List.map_toArray,List.map_cons,List.map_nil,hs,hx,hr]
   exact h _ _ _ w hown (World.grownBy.refl _ _)
  ·have hr:=Qb8 (P:=Tryz.prog) w Ts o.type T i ht hi g n cap c hc
   unfold Oper.wp execOp
   simp only [ho,resolve,invoke,builtin,Sem.run_bind,Sem.run_pure,Result.andThen_ok,List.map_toArray,List.map_cons,List.map_nil,hs,hx,hr]
   exact h _ _ _ w hown (World.grownBy.refl _ _)
 | some ad =>
  refine wp_append_own w s x Ts ho base T i z 2 16 ht hi hz hsize hby hzs (by decide) v xs.length (Zq xs) hs hown ad m c (Zq ys) hx (by rw [Jj,hin.len]) (Qko hin) Qlw (by unfold maxLen;omega) (by omega) hbase ?_
  intro v' w' hown' hg _
  have hr:TwoR T base w' v' (xs ++ ys):=by
   unfold TwoR
   rw [List.length_append,Qb0,hin.len]
   exact hown'
  obtain ⟨ar,cr,e,-⟩:=hr.form
  subst e
  exact h _ _ _ w' hr hg
end Go.Proofs.YtcooobnaocbdjaaGreatDoor

end
