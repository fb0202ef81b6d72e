import Derived.Test.YtcooobnaocbdjaaGreatDoorJoin31
import Derived.Test.YtcooobnaocbdjaaGreatDoorJoin29
set_option maxRecDepth 100000
set_option maxHeartbeats 6400000
set_option linter.unusedSimpArgs false
set_option linter.unusedVariables false
namespace Go.Proofs.YtcooobnaocbdjaaGreatDoor
open Go.RowKit Go.Sort
def OwnI {α:Type} (S:Owned α) (hS:0<S.size) (lo hi:Nat) (wx:World) (v:Value) (xs:List α):Prop:=hi<=wx.heap.size/\(Owned.list S hS).owns (Zb lo hi) wx [v] xs
theorem OwnI.grew {α:Type} {S:Owned α} {hS:0<S.size} {lo0 lo hi:Nat} {wx wy:World} {v:Value} {xs:List α} (h:OwnI S hS lo hi wx v xs) (hg:Grew lo0 wx wy) (hl:lo0<=lo):OwnI S hS lo hi wy v xs:=
 ⟨Nat.le_trans h.1 hg.1,(Owned.list S hS).owns_keep h.2 fun b o f=>by
  have e:=hg.2 b (Nat.le_trans hl f.1) (Nat.lt_of_lt_of_le f.2 h.1)
  exact ⟨World.cell?_of_block (a:=⟨b,o,none⟩) e,World.frozen?_of_block (a:=⟨b,o,none⟩) e⟩⟩
theorem OwnI.form {α:Type} {S:Owned α} {hS:0<S.size} {lo hi:Nat} {wx:World} {v:Value} {xs:List α} (h:OwnI S hS lo hi wx v xs) : ∃ a n c,v = .slice a n c:=by
 obtain ⟨-,a,n,c,e,-⟩:=h
 exact ⟨a,n,c,by simpa using e⟩
theorem OwnI.ofL {α:Type} {S:Owned α} {hS:0<S.size} {T:TypeId} {lo hi:Nat} {w:World} {v:Value} {xs:List α} (h:ListL S T lo hi w v xs):OwnI S hS lo hi w v xs:=⟨h.top,h.own hS⟩
theorem OwnI.ofRow {base:Nat} {w:World} {v:Value} {xs:List Int} (h:Row base w v xs):OwnI Owned.int (by decide) base w.heap.size w v xs:=⟨Nat.le_refl _,h.own⟩
theorem OwnI.ofTwo {T:TypeId} {base:Nat} {w:World} {v:Value} {xs:List dIns} (h:TwoR T base w v xs):OwnI Qo (by decide) base w.heap.size w v xs:=⟨Nat.le_refl _,TwoR.own h⟩
theorem OwnI.at {α:Type} {S:Owned α} {hS:0<S.size} {lo hi lo' hi':Nat} {wx:World} {v:Value} {xs:List α} (h:OwnI S hS lo hi wx v xs) (e:lo=lo') (e':hi=hi'):OwnI S hS lo' hi' wx v xs:=by subst e;subst e';exact h
theorem ListL.at' {α:Type} {S:Owned α} {T:TypeId} {lo hi lo' hi':Nat} {wx:World} {v:Value} {xs:List α} (h:ListL S T lo hi wx v xs) (e:lo=lo') (e':hi=hi'):ListL S T lo' hi' wx v xs:=by subst e;subst e';exact h
structure NineC (c:Nat->Nat) (wx:World) (v1 v2 v5 v6 v7 v8 v9 v10 v11:Value) (s:Qq):Prop where
 mono : ∀ j,j<9->c j<=c (j+1)
 o1:OwnI Qo (by decide) (c 0) (c 1) wx v1 (Qfg s)
 o2:OwnI ownOp (by decide) (c 1) (c 2) wx v2 (opsS s)
 o5:ListL Qe 46 (c 2) (c 3) wx v5 (Zc s)
 o6:OwnI ownRow (by decide) (c 3) (c 4) wx v6 (Qj7 s)
 o7:OwnI Owned.int (by decide) (c 4) (c 5) wx v7 (xS s)
 o8:OwnI Owned.int (by decide) (c 5) (c 6) wx v8 (yS s)
 o9:OwnI Owned.int (by decide) (c 6) (c 7) wx v9 (gS s)
 o10:OwnI Owned.int (by decide) (c 7) (c 8) wx v10 (dS s)
 o11:OwnI ownRow (by decide) (c 8) (c 9) wx v11 (sumS s).1
structure NineO (J:Nat->Nat->Prop) (wx:World) (v1 v2 v5 v6 v7 v8 v9 v10 v11:Value) (s:Qq):Prop where
 o1:(Owned.list Qo (by decide)).owns (fun b _=>J 0 b) wx [v1] (Qfg s)
 o2:(Owned.list ownOp (by decide)).owns (fun b _=>J 1 b) wx [v2] (opsS s)
 o5:(Owned.list Qe (by decide)).owns (fun b _=>J 2 b) wx [v5] (Zc s)
 o6:(Owned.list ownRow (by decide)).owns (fun b _=>J 3 b) wx [v6] (Qj7 s)
 o7:(Owned.list Owned.int (by decide)).owns (fun b _=>J 4 b) wx [v7] (xS s)
 o8:(Owned.list Owned.int (by decide)).owns (fun b _=>J 5 b) wx [v8] (yS s)
 o9:(Owned.list Owned.int (by decide)).owns (fun b _=>J 6 b) wx [v9] (gS s)
 o10:(Owned.list Owned.int (by decide)).owns (fun b _=>J 7 b) wx [v10] (dS s)
 o11:(Owned.list ownRow (by decide)).owns (fun b _=>J 8 b) wx [v11] (sumS s).1
 apart : ∀ i j b,i<j->j<9->J i b->J j b->False
theorem NineO.own {J:Nat->Nat->Prop} {wx:World} {v1 v2 v5 v6 v7 v8 v9 v10 v11:Value} {s:Qq} (h:NineO J wx v1 v2 v5 v6 v7 v8 v9 v10 v11 s) {lo hi:Nat} (hJ : ∀ i b,i<9->J i b->lo<=b/\b<hi) :
  Qg.owns (Zb lo hi) wx (Qji (pcS s) v1 v2 (Qbt s) (Qb3 s) v5 v6 v7 v8 v9 v10 v11 (sumS s).2.1 (sumS s).2.2).toList s:=by
 obtain ⟨a1,n1,c1,e1,p1,q1,l1⟩:=h.o1
 obtain ⟨a2,n2,c2,e2,p2,q2,l2⟩:=h.o2
 obtain ⟨a5,n5,c5,e5,p5,q5,l5⟩:=h.o5
 obtain ⟨a6,n6,c6,e6,p6,q6,l6⟩:=h.o6
 obtain ⟨a7,n7,c7,e7,p7,q7,l7⟩:=h.o7
 obtain ⟨a8,n8,c8,e8,p8,q8,l8⟩:=h.o8
 obtain ⟨a9,n9,c9,e9,p9,q9,l9⟩:=h.o9
 obtain ⟨a10,n10,c10,e10,p10,q10,l10⟩:=h.o10
 obtain ⟨a11,n11,c11,e11,p11,q11,l11⟩:=h.o11
 cases e1;cases e2;cases e5;cases e6;cases e7;cases e8;cases e9;cases e10;cases e11
 refine Jp.2 ⟨a1,n1,c1,a2,n2,c2,a5,n5,c5,a6,n6,c6,a7,n7,c7,a8,n8,c8,a9,n9,c9,a10,n10,c10,a11,n11,c11,fun b _=>J 0 b,fun b _=>J 1 b,fun b _=>J 2 b,fun b _=>J 3 b,fun b _=>J 4 b,fun b _=>J 5 b,fun b _=>J 6 b,fun b _=>J 7 b,fun b _=>J 8 b,rfl,
  ⟨p1,q1,l1⟩,⟨p2,q2,l2⟩,⟨p5,q5,l5⟩,⟨p6,q6,l6⟩,⟨p7,q7,l7⟩,⟨p8,q8,l8⟩,⟨p9,q9,l9⟩,⟨p10,q10,l10⟩,⟨p11,q11,l11⟩,
  fun b o f=>hJ 0 b (by omega) f,fun b o f=>hJ 1 b (by omega) f,fun b o f=>hJ 2 b (by omega) f,fun b o f=>hJ 3 b (by omega) f,fun b o f=>hJ 4 b (by omega) f,fun b o f=>hJ 5 b (by omega) f,fun b o f=>hJ 6 b (by omega) f,fun b o f=>hJ 7 b (by omega) f,fun b o f=>hJ 8 b (by omega) f,
  fun b o f g=>h.apart 0 1 b (by omega) (by omega) f g,fun b o f g=>h.apart 0 2 b (by omega) (by omega) f g,fun b o f g=>h.apart 0 3 b (by omega) (by omega) f g,fun b o f g=>h.apart 0 4 b (by omega) (by omega) f g,fun b o f g=>h.apart 0 5 b (by omega) (by omega) f g,fun b o f g=>h.apart 0 6 b (by omega) (by omega) f g,fun b o f g=>h.apart 0 7 b (by omega) (by omega) f g,fun b o f g=>h.apart 0 8 b (by omega) (by omega) f g,fun b o f g=>h.apart 1 2 b (by omega) (by omega) f g,fun b o f g=>h.apart 1 3 b (by omega) (by omega) f g,fun b o f g=>h.apart 1 4 b (by omega) (by omega) f g,fun b o f g=>h.apart 1 5 b (by omega) (by omega) f g,fun b o f g=>h.apart 1 6 b (by omega) (by omega) f g,fun b o f g=>h.apart 1 7 b (by omega) (by omega) f g,fun b o f g=>h.apart 1 8 b (by omega) (by omega) f g,fun b o f g=>h.apart 2 3 b (by omega) (by omega) f g,fun b o f g=>h.apart 2 4 b (by omega) (by omega) f g,fun b o f g=>h.apart 2 5 b (by omega) (by omega) f g,fun b o f g=>h.apart 2 6 b (by omega) (by omega) f g,fun b o f g=>h.apart 2 7 b (by omega) (by omega) f g,fun b o f g=>h.apart 2 8 b (by omega) (by omega) f g,fun b o f g=>h.apart 3 4 b (by omega) (by omega) f g,fun b o f g=>h.apart 3 5 b (by omega) (by omega) f g,fun b o f g=>h.apart 3 6 b (by omega) (by omega) f g,fun b o f g=>h.apart 3 7 b (by omega) (by omega) f g,fun b o f g=>h.apart 3 8 b (by omega) (by omega) f g,fun b o f g=>h.apart 4 5 b (by omega) (by omega) f g,fun b o f g=>h.apart 4 6 b (by omega) (by omega) f g,fun b o f g=>h.apart 4 7 b (by omega) (by omega) f g,fun b o f g=>h.apart 4 8 b (by omega) (by omega) f g,fun b o f g=>h.apart 5 6 b (by omega) (by omega) f g,fun b o f g=>h.apart 5 7 b (by omega) (by omega) f g,fun b o f g=>h.apart 5 8 b (by omega) (by omega) f g,fun b o f g=>h.apart 6 7 b (by omega) (by omega) f g,fun b o f g=>h.apart 6 8 b (by omega) (by omega) f g,fun b o f g=>h.apart 7 8 b (by omega) (by omega) f g⟩
theorem NineC.toO {c:Nat->Nat} {wx:World} {v1 v2 v5 v6 v7 v8 v9 v10 v11:Value} {s:Qq} (h:NineC c wx v1 v2 v5 v6 v7 v8 v9 v10 v11 s):NineO (fun i b=>c i<=b/\b<c (i+1)) wx v1 v2 v5 v6 v7 v8 v9 v10 v11 s:=
 ⟨h.o1.2,h.o2.2,h.o5.own (by decide),h.o6.2,h.o7.2,h.o8.2,h.o9.2,h.o10.2,h.o11.2,fun i j b hi hj f g=>by
  have:=Qe9 (k:=9) h.mono (i+1) j (by omega) (by omega)
  have h1:=f.2
  have h2:=g.1
  omega⟩
theorem NineC.own {c:Nat->Nat} {wx:World} {v1 v2 v5 v6 v7 v8 v9 v10 v11:Value} {s:Qq} (h:NineC c wx v1 v2 v5 v6 v7 v8 v9 v10 v11 s) {lo hi:Nat} (hl:lo<=c 0) (hh:c 9<=hi) :
  Qg.owns (Zb lo hi) wx (Qji (pcS s) v1 v2 (Qbt s) (Qb3 s) v5 v6 v7 v8 v9 v10 v11 (sumS s).2.1 (sumS s).2.2).toList s:=
 h.toO.own fun i b hi f=>by
  have h1:=Qe9 (k:=9) h.mono 0 i (by omega) (by omega)
  have h2:=Qe9 (k:=9) h.mono (i+1) 9 (by omega) (by omega)
  have h3:=f.1
  have h4:=f.2
  omega
theorem Qku (ad:Addr) (n c:Nat) (w:World):(binOp .eql 24 (.slice (some ad) n c) (.slice none 0 0)).run Tryz.prog w = .ok (.bool false) w:=by kernel_rfl
theorem Qkv (n c:Nat) (w:World):(binOp .eql 24 (.slice none n c) (.slice none 0 0)).run Tryz.prog w = .ok (.bool true) w:=by kernel_rfl
theorem Qgc (w:World) (a:Option Addr) (n c:Nat) (ds:List dIns) (h:TwoIn w.heap.size w a n ds) :
  Calls Tryz.prog 134 #[.slice a n c] w fun e w' => ∃ v,e = .returned v/\TwoR 144 w.heap.size w' v ds/\Below w.heap.size w w':=by
 obtain ⟨i0,hi,hz0,hz1,hz2⟩:=info_parts Qj1
 cases a with
 | none =>
  obtain ⟨rfl,rfl⟩:=h.nil
  have hnn:=Qkv 0 c
  clear h
  go_enter Tryz.func134,Tryz.ntmps134
  go_wp2_with fail
  go_ret
  exact ⟨_,rfl,TwoR.nil _ _,Below.refl _ _⟩
 | some ad =>
  have hnn:=Qku ad n c
  have hal:=(Below.refl w.heap.size w).alloc (Nat.le_refl _) (.cells #[] 144 (0,0))
  have hin:=(h.below hal (Nat.le_refl _)).le hal.size
  have hem:=TwoR.empty (T:=144) (base:=w.heap.size) w (Nat.le_refl _)
  have HIN:=Lib.hid hin
  have HEM:=Lib.hid hem
  have HA:=Lib.hid hal
  clear h hin hem hal
  go_enter Tryz.func134,Tryz.ntmps134
  go_wp2_with (at_builtin;refine Qw (by rfl) fun K hK => ?_;refine Ju rfl (Qcl (ops:=#[]) (T:=144) (Ts:=24) (w.alloc (.cells #[] 144 (0,0))) rfl _ _ (by rfl) i0 (.agg #[.int .i64 0,.int .i64 0]) Tryz.underlying24 hi hz0 hz1 hz2 rfl w.heap.size _ [] (by rfl) HEM.out (some ad) n c _ ds (by rfl) HIN.out (by simp) HA.out.size ?_);intro ar nr cr w2 hr hg;rw [List.nil_append] at hr;have HB:=Lib.hid (HA.out.grown hg HA.out.size fun q hq=>by cases hq;exact Nat.le_refl _);have HR:=Lib.hid hr;clear hr hg;refine hK _ _ ?_;clear hK K)
  go_ret
  exact ⟨_,rfl,HR.out,HB.out⟩
theorem Qmw (w:World) (es:List Value) (s:Qq) (h:Qd.reads (Qf w.heap.size) w es s) (hsm:Js s) (hlen:(Zc s).length<=1048576) :
  Calls Tryz.prog 49 #[.agg es.toArray] w fun e w' => ∃ v1 v2 v5 v6 v7 v8 v9 v10 v11 c,e = .returned (.agg (Qji (pcS s) v1 v2 (Qbt s) (Qb3 s) v5 v6 v7 v8 v9 v10 v11 (sumS s).2.1 (sumS s).2.2))/\Below w.heap.size w w'/\w.heap.size<=c 0/\c 9<=w'.heap.size/\NineC c w' v1 v2 v5 v6 v7 v8 v9 v10 v11 s:=by
 obtain ⟨b1,b2,b5,b6,b7,b8,b9,b10,b11⟩:=hsm
 obtain ⟨a1,n1,c1,a2,n2,c2,a5,n5,c5,a6,n6,c6,a7,n7,c7,a8,n8,c8,a9,n9,c9,a10,n10,c10,a11,n11,c11,rfl,⟨p1,q1,l1⟩,⟨p2,q2,l2⟩,⟨p5,q5,l5⟩,⟨p6,q6,l6⟩,⟨p7,q7,l7⟩,⟨p8,q8,l8⟩,⟨p9,q9,l9⟩,⟨p10,q10,l10⟩,⟨p11,q11,l11⟩⟩:=Qn.1 h
 obtain ⟨pc,plan,ops,last,redo,stash,full,xs,ys,gs,ds,rows,loss,sat⟩:=s
 replace b1:(Shape.list Z1).bulk plan<=1048576:=b1
 replace b2:(Shape.list shOp).bulk ops<=1048576:=b2
 replace b5:Qab stash:=b5
 replace b6:(Shape.list Qi).bulk full<=1048576:=b6
 replace b11:(Shape.list Qi).bulk rows<=1048576:=b11
 replace l1:Qb Z1 (Qf w.heap.size) w a1 n1 plan:=l1
 replace l2:Qb shOp (Qf w.heap.size) w a2 n2 ops:=l2
 replace l5:Qb Qc (Qf w.heap.size) w a5 n5 stash:=l5
 replace l6:Qb Qi (Qf w.heap.size) w a6 n6 full:=l6
 replace l11:Qb Qi (Qf w.heap.size) w a11 n11 rows:=l11
 replace hlen:stash.length<=1048576:=hlen
 replace l7:Qb Shape.int (Qf w.heap.size) w a7 n7 xs:=l7
 replace b7:xs.length<=1048576:=by rw [<- Ql];exact b7
 have C7:=Lib.hid fun (wx:World) (hx:Below w.heap.size w wx)=>Jd wx a7 n7 c7 xs (((l7.ints (by have:=l7.1;omega)).below hx (Nat.le_refl _)).le hx.size)
 replace l8:Qb Shape.int (Qf w.heap.size) w a8 n8 ys:=l8
 replace b8:ys.length<=1048576:=by rw [<- Ql];exact b8
 have C8:=Lib.hid fun (wx:World) (hx:Below w.heap.size w wx)=>Jd wx a8 n8 c8 ys (((l8.ints (by have:=l8.1;omega)).below hx (Nat.le_refl _)).le hx.size)
 replace l9:Qb Shape.int (Qf w.heap.size) w a9 n9 gs:=l9
 replace b9:gs.length<=1048576:=by rw [<- Ql];exact b9
 have C9:=Lib.hid fun (wx:World) (hx:Below w.heap.size w wx)=>Jd wx a9 n9 c9 gs (((l9.ints (by have:=l9.1;omega)).below hx (Nat.le_refl _)).le hx.size)
 replace l10:Qb Shape.int (Qf w.heap.size) w a10 n10 ds:=l10
 replace b10:ds.length<=1048576:=by rw [<- Ql];exact b10
 have C10:=Lib.hid fun (wx:World) (hx:Below w.heap.size w wx)=>Jd wx a10 n10 c10 ds (((l10.ints (by have:=l10.1;omega)).below hx (Nat.le_refl _)).le hx.size)
 have hti:=l1.twoIn (Nat.le_refl _) b1
 rw [Qh shOp l2] at b2
 rw [Qh Qi l6] at b6
 rw [Qh Qi l11] at b11
 have C1:=Lib.hid fun (wx:World) (hx:Below w.heap.size w wx)=>Qgc wx a1 n1 c1 plan ((hti.below hx (Nat.le_refl _)).le hx.size)
 have C2:=Lib.hid fun (wx:World) (hx:Below w.heap.size w wx)=>Qjk wx a2 n2 c2 ops ((l2.below hx (Nat.le_refl _)).le hx.size) (by omega) (fun j x hj=>by have:=Qz shOp.bulk ops j x hj;omega)
 have C5:=Lib.hid fun (wx:World) (hx:Below w.heap.size w wx)=>Qfq wx a5 n5 c5 stash ((l5.below hx (Nat.le_refl _)).le hx.size) (by rw [<- l5.1];exact hlen) (fun j x hj=>b5.2 x (List.mem_of_getElem? hj))
 have C6:=Lib.hid fun (wx:World) (hx:Below w.heap.size w wx)=>Qb7 wx a6 n6 c6 full ((l6.below hx (Nat.le_refl _)).le hx.size) (by omega) (fun j x hj=>by have:=Qz Qi.bulk full j x hj;omega)
 have C11:=Lib.hid fun (wx:World) (hx:Below w.heap.size w wx)=>Qb7 wx a11 n11 c11 rows ((l11.below hx (Nat.le_refl _)).le hx.size) (by omega) (fun j x hj=>by have:=Qz Qi.bulk rows j x hj;omega)
 clear h l1 l2 l5 l6 l7 l8 l9 l10 l11 b1 b2 b5 b6 b7 b8 b9 b10 b11 hti hlen
 have h2:((w.alloc (.cells #[.int .i64 pc,.slice a1 n1 c1,.slice a2 n2 c2,.bool last,.bool redo,.slice a5 n5 c5,.slice a6 n6 c6,.slice a7 n7 c7,.slice a8 n8 c8,.slice a9 n9 c9,.slice a10 n10 c10,.slice a11 n11 c11,.int .i64 loss,.bool sat] 32 (0,0))).alloc (.cells Zj 32 (0,0))).heap.size=w.heap.size+2:=by simp
 have hb0:((w.alloc (.cells #[.int .i64 pc,.slice a1 n1 c1,.slice a2 n2 c2,.bool last,.bool redo,.slice a5 n5 c5,.slice a6 n6 c6,.slice a7 n7 c7,.slice a8 n8 c8,.slice a9 n9 c9,.slice a10 n10 c10,.slice a11 n11 c11,.int .i64 loss,.bool sat] 32 (0,0))).alloc (.cells Zj 32 (0,0))).heap[w.heap.size]? = some (.cells #[.int .i64 pc,.slice a1 n1 c1,.slice a2 n2 c2,.bool last,.bool redo,.slice a5 n5 c5,.slice a6 n6 c6,.slice a7 n7 c7,.slice a8 n8 c8,.slice a9 n9 c9,.slice a10 n10 c10,.slice a11 n11 c11,.int .i64 loss,.bool sat] 32 (0,0)):=by
  rw [Below.heap_alloc _ _ _ (by simp)]
  exact heap_alloc_new w _
 have hb1:((w.alloc (.cells #[.int .i64 pc,.slice a1 n1 c1,.slice a2 n2 c2,.bool last,.bool redo,.slice a5 n5 c5,.slice a6 n6 c6,.slice a7 n7 c7,.slice a8 n8 c8,.slice a9 n9 c9,.slice a10 n10 c10,.slice a11 n11 c11,.int .i64 loss,.bool sat] 32 (0,0))).alloc (.cells Zj 32 (0,0))).heap[w.heap.size+1]? = some (.cells Zj 32 (0,0)):=by
  have:=heap_alloc_new (w.alloc (.cells #[.int .i64 pc,.slice a1 n1 c1,.slice a2 n2 c2,.bool last,.bool redo,.slice a5 n5 c5,.slice a6 n6 c6,.slice a7 n7 c7,.slice a8 n8 c8,.slice a9 n9 c9,.slice a10 n10 c10,.slice a11 n11 c11,.int .i64 loss,.bool sat] 32 (0,0))) (.cells Zj 32 (0,0))
  rwa [World.size_alloc] at this
 have hal:Below w.heap.size w ((w.alloc (.cells #[.int .i64 pc,.slice a1 n1 c1,.slice a2 n2 c2,.bool last,.bool redo,.slice a5 n5 c5,.slice a6 n6 c6,.slice a7 n7 c7,.slice a8 n8 c8,.slice a9 n9 c9,.slice a10 n10 c10,.slice a11 n11 c11,.int .i64 loss,.bool sat] 32 (0,0))).alloc (.cells Zj 32 (0,0))):=((Below.refl _ _).alloc (Nat.le_refl _) _).alloc (by simp) _
 have HB:=Lib.hid hb0
 have HZ:=Lib.hid hb1
 have HW:=Lib.hid hal
 have HS:=Lib.hid h2
 clear hb0 hb1 hal h2
 go_enter Tryz.func49,Tryz.ntmps49
 go_upto_region 1 with fail
 generalize (w.alloc (.cells #[.int .i64 pc,.slice a1 n1 c1,.slice a2 n2 c2,.bool last,.bool redo,.slice a5 n5 c5,.slice a6 n6 c6,.slice a7 n7 c7,.slice a8 n8 c8,.slice a9 n9 c9,.slice a10 n10 c10,.slice a11 n11 c11,.int .i64 loss,.bool sat] 32 (0,0))).alloc (.cells Zj 32 (0,0))=W0 at HB HZ HW HS |-
 have hWS:w.heap.size+2<=W0.heap.size:=by have:=HS.out;omega
 have HWS:=Lib.hid hWS
 clear hWS
 have z:=Qa HB.out 1 _ rfl
 go_wp2_with fail
 refine (C1.out W0 HW.out).mono ?_
 rintro e w1 ⟨v1,rfl,hl,hb⟩
 have ho:=OwnI.ofTwo hl
 obtain ⟨a1',n1',c1',rfl⟩:=ho.form
 have O1:=Lib.hid ho
 clear ho hl
 clear z
 have hW:=HWS.out
 have HB':=Lib.hid ((hb.block w.heap.size (by omega)).trans HB.out)
 have HZ':=Lib.hid ((hb.block (w.heap.size+1) (by omega)).trans HZ.out)
 have HW':=Lib.hid (HW.out.trans (hb.mono HW.out.size))
 have HWS':=Lib.hid (Nat.le_trans hW hb.size)
 clear HB HZ HW HWS
 have HB:=HB'
 have HZ:=HZ'
 have HW:=HW'
 have HWS:=HWS'
 clear HB' HZ' HW' HWS'
 have L1:Hid (w.heap.size+2<=W0.heap.size):=Lib.hid hW
 have M1:Hid (W0.heap.size<=w1.heap.size):=Lib.hid hb.size
 clear hb hW
 have cc:=Qa HB.out 1 _ rfl
 have ff:w1.frozen? ⟨w.heap.size,1,none⟩=false:=frozen_of_row _ _ _ _ _ HB.out
 have hB':(w1.setCell ⟨w.heap.size,1,none⟩ (.slice a1' n1' c1')).heap[w.heap.size]? = some (.cells #[.int .i64 pc,.slice a1' n1' c1',.slice a2 n2 c2,.bool last,.bool redo,.slice a5 n5 c5,.slice a6 n6 c6,.slice a7 n7 c7,.slice a8 n8 c8,.slice a9 n9 c9,.slice a10 n10 c10,.slice a11 n11 c11,.int .i64 loss,.bool sat] 32 (0,0)):=by
  have:=heap_setCell_same w1 w.heap.size 1 _ _ (.slice a1' n1' c1') HB.out
  simpa only [List.setIfInBounds_toArray,List.set_cons_zero,List.set_cons_succ] using this
 have hZ':(w1.setCell ⟨w.heap.size,1,none⟩ (.slice a1' n1' c1')).heap[w.heap.size+1]? = some (.cells Zj 32 (0,0)):=(Below.heap_setCell _ _ _ _ (by show w.heap.size+1≠w.heap.size;omega)).trans HZ.out
 have hW':=HW.out.setCell (p:=⟨w.heap.size,1,none⟩) (Nat.le_refl _) (.slice a1' n1' c1')
 have hS':(w1.setCell ⟨w.heap.size,1,none⟩ (.slice a1' n1' c1')).heap.size=w1.heap.size:=by simp
 have SB:=Lib.hid hB'
 have SZ:=Lib.hid hZ'
 have SW:=Lib.hid hW'
 have SS:=Lib.hid hS'
 have SO1:=Lib.hid (O1.out.grew (Grew.stored (lo:=w.heap.size+2) (g:=w.heap.size) (by omega) w1 1 (.slice a1' n1' c1')) L1.out)
 clear hB' hZ' hW' hS'
 go_upto_region 2 with fail
 clear cc ff
 generalize w1.setCell ⟨w.heap.size,1,none⟩ (.slice a1' n1' c1')=W1 at SB SZ SW SS SO1 |-
 have SWS:Hid (w.heap.size+2<=W1.heap.size):=Lib.hid (by have:=SS.out;have:=HWS.out;omega)
 clear HB HZ HW HWS O1
 have HB:=SB
 have HZ:=SZ
 have HW:=SW
 have HWS:=SWS
 have O1:=SO1
 have T1:Hid (W1.heap.size=w1.heap.size):=SS
 clear SB SZ SW SS SWS SO1
 have z:=Qa HB.out 2 _ rfl
 go_wp2_with fail
 refine (C2.out W1 HW.out).mono ?_
 rintro e w2 ⟨v2,rfl,hl,hb⟩
 have ho:OwnI ownOp (by decide) _ _ _ _ _:=OwnI.ofL hl
 obtain ⟨a2',n2',c2',rfl⟩:=ho.form
 have O2:=Lib.hid ho
 clear ho hl
 clear z
 have hW:=HWS.out
 have HB':=Lib.hid ((hb.block w.heap.size (by omega)).trans HB.out)
 have HZ':=Lib.hid ((hb.block (w.heap.size+1) (by omega)).trans HZ.out)
 have HW':=Lib.hid (HW.out.trans (hb.mono HW.out.size))
 have HWS':=Lib.hid (Nat.le_trans hW hb.size)
 have O1':=Lib.hid (O1.out.grew (Grew.called (lo:=w.heap.size+2) hb) (by first | exact L1.out | omega))
 clear HB HZ HW HWS O1
 have HB:=HB'
 have HZ:=HZ'
 have HW:=HW'
 have HWS:=HWS'
 have O1:=O1'
 clear HB' HZ' HW' HWS' O1'
 have L2:Hid (w.heap.size+2<=W1.heap.size):=Lib.hid hW
 have M2:Hid (W1.heap.size<=w2.heap.size):=Lib.hid hb.size
 clear hb hW
 have cc:=Qa HB.out 2 _ rfl
 have ff:w2.frozen? ⟨w.heap.size,2,none⟩=false:=frozen_of_row _ _ _ _ _ HB.out
 have hB':(w2.setCell ⟨w.heap.size,2,none⟩ (.slice a2' n2' c2')).heap[w.heap.size]? = some (.cells #[.int .i64 pc,.slice a1' n1' c1',.slice a2' n2' c2',.bool last,.bool redo,.slice a5 n5 c5,.slice a6 n6 c6,.slice a7 n7 c7,.slice a8 n8 c8,.slice a9 n9 c9,.slice a10 n10 c10,.slice a11 n11 c11,.int .i64 loss,.bool sat] 32 (0,0)):=by
  have:=heap_setCell_same w2 w.heap.size 2 _ _ (.slice a2' n2' c2') HB.out
  simpa only [List.setIfInBounds_toArray,List.set_cons_zero,List.set_cons_succ] using this
 have hZ':(w2.setCell ⟨w.heap.size,2,none⟩ (.slice a2' n2' c2')).heap[w.heap.size+1]? = some (.cells Zj 32 (0,0)):=(Below.heap_setCell _ _ _ _ (by show w.heap.size+1≠w.heap.size;omega)).trans HZ.out
 have hW':=HW.out.setCell (p:=⟨w.heap.size,2,none⟩) (Nat.le_refl _) (.slice a2' n2' c2')
 have hS':(w2.setCell ⟨w.heap.size,2,none⟩ (.slice a2' n2' c2')).heap.size=w2.heap.size:=by simp
 have SB:=Lib.hid hB'
 have SZ:=Lib.hid hZ'
 have SW:=Lib.hid hW'
 have SS:=Lib.hid hS'
 have SO1:=Lib.hid (O1.out.grew (Grew.stored (lo:=w.heap.size+2) (g:=w.heap.size) (by omega) w2 2 (.slice a2' n2' c2')) L1.out)
 have SO2:=Lib.hid (O2.out.grew (Grew.stored (lo:=w.heap.size+2) (g:=w.heap.size) (by omega) w2 2 (.slice a2' n2' c2')) L2.out)
 clear hB' hZ' hW' hS'
 go_upto_region 3 with fail
 clear cc ff
 generalize w2.setCell ⟨w.heap.size,2,none⟩ (.slice a2' n2' c2')=W2 at SB SZ SW SS SO1 SO2 |-
 have SWS:Hid (w.heap.size+2<=W2.heap.size):=Lib.hid (by have:=SS.out;have:=HWS.out;omega)
 clear HB HZ HW HWS O1 O2
 have HB:=SB
 have HZ:=SZ
 have HW:=SW
 have HWS:=SWS
 have O1:=SO1
 have O2:=SO2
 have T2:Hid (W2.heap.size=w2.heap.size):=SS
 clear SB SZ SW SS SWS SO1 SO2
 have z:=Qa HB.out 5 _ rfl
 go_wp2_with fail
 refine (C5.out W2 HW.out).mono ?_
 rintro e w3 ⟨v5,rfl,hl,hb⟩
 have ho:=hl
 obtain ⟨a5',c5',e5,-,-⟩:=hl.form
 obtain ⟨n5',hn5⟩ : ∃ q,stash.length=q:=⟨_,rfl⟩
 rw [hn5] at e5
 subst e5
 clear hn5
 have O5:=Lib.hid ho
 clear ho hl
 clear z
 have hW:=HWS.out
 have HB':=Lib.hid ((hb.block w.heap.size (by omega)).trans HB.out)
 have HZ':=Lib.hid ((hb.block (w.heap.size+1) (by omega)).trans HZ.out)
 have HW':=Lib.hid (HW.out.trans (hb.mono HW.out.size))
 have HWS':=Lib.hid (Nat.le_trans hW hb.size)
 have O1':=Lib.hid (O1.out.grew (Grew.called (lo:=w.heap.size+2) hb) (by first | exact L1.out | omega))
 have O2':=Lib.hid (O2.out.grew (Grew.called (lo:=w.heap.size+2) hb) (by first | exact L2.out | omega))
 clear HB HZ HW HWS O1 O2
 have HB:=HB'
 have HZ:=HZ'
 have HW:=HW'
 have HWS:=HWS'
 have O1:=O1'
 have O2:=O2'
 clear HB' HZ' HW' HWS' O1' O2'
 have L5:Hid (w.heap.size+2<=W2.heap.size):=Lib.hid hW
 have M5:Hid (W2.heap.size<=w3.heap.size):=Lib.hid hb.size
 clear hb hW
 have cc:=Qa HB.out 5 _ rfl
 have ff:w3.frozen? ⟨w.heap.size,5,none⟩=false:=frozen_of_row _ _ _ _ _ HB.out
 have hB':(w3.setCell ⟨w.heap.size,5,none⟩ (.slice a5' n5' c5')).heap[w.heap.size]? = some (.cells #[.int .i64 pc,.slice a1' n1' c1',.slice a2' n2' c2',.bool last,.bool redo,.slice a5' n5' c5',.slice a6 n6 c6,.slice a7 n7 c7,.slice a8 n8 c8,.slice a9 n9 c9,.slice a10 n10 c10,.slice a11 n11 c11,.int .i64 loss,.bool sat] 32 (0,0)):=by
  have:=heap_setCell_same w3 w.heap.size 5 _ _ (.slice a5' n5' c5') HB.out
  simpa only [List.setIfInBounds_toArray,List.set_cons_zero,List.set_cons_succ] using this
 have hZ':(w3.setCell ⟨w.heap.size,5,none⟩ (.slice a5' n5' c5')).heap[w.heap.size+1]? = some (.cells Zj 32 (0,0)):=(Below.heap_setCell _ _ _ _ (by show w.heap.size+1≠w.heap.size;omega)).trans HZ.out
 have hW':=HW.out.setCell (p:=⟨w.heap.size,5,none⟩) (Nat.le_refl _) (.slice a5' n5' c5')
 have hS':(w3.setCell ⟨w.heap.size,5,none⟩ (.slice a5' n5' c5')).heap.size=w3.heap.size:=by simp
 have SB:=Lib.hid hB'
 have SZ:=Lib.hid hZ'
 have SW:=Lib.hid hW'
 have SS:=Lib.hid hS'
 have SO1:=Lib.hid (O1.out.grew (Grew.stored (lo:=w.heap.size+2) (g:=w.heap.size) (by omega) w3 5 (.slice a5' n5' c5')) L1.out)
 have SO2:=Lib.hid (O2.out.grew (Grew.stored (lo:=w.heap.size+2) (g:=w.heap.size) (by omega) w3 5 (.slice a5' n5' c5')) L2.out)
 have SO5:=Lib.hid (O5.out.grew (Grew.stored (lo:=w.heap.size+2) (g:=w.heap.size) (by omega) w3 5 (.slice a5' n5' c5')) L5.out)
 clear hB' hZ' hW' hS'
 go_upto_region 4 with fail
 clear cc ff
 generalize w3.setCell ⟨w.heap.size,5,none⟩ (.slice a5' n5' c5')=W3 at SB SZ SW SS SO1 SO2 SO5 |-
 have SWS:Hid (w.heap.size+2<=W3.heap.size):=Lib.hid (by have:=SS.out;have:=HWS.out;omega)
 clear HB HZ HW HWS O1 O2 O5
 have HB:=SB
 have HZ:=SZ
 have HW:=SW
 have HWS:=SWS
 have O1:=SO1
 have O2:=SO2
 have O5:=SO5
 have T5:Hid (W3.heap.size=w3.heap.size):=SS
 clear SB SZ SW SS SWS SO1 SO2 SO5
 have z:=Qa HB.out 6 _ rfl
 go_wp2_with fail
 refine (C6.out W3 HW.out).mono ?_
 rintro e w4 ⟨v6,rfl,hl,hb⟩
 have ho:OwnI ownRow (by decide) _ _ _ _ _:=OwnI.ofL hl
 obtain ⟨a6',n6',c6',rfl⟩:=ho.form
 have O6:=Lib.hid ho
 clear ho hl
 clear z
 have hW:=HWS.out
 have HB':=Lib.hid ((hb.block w.heap.size (by omega)).trans HB.out)
 have HZ':=Lib.hid ((hb.block (w.heap.size+1) (by omega)).trans HZ.out)
 have HW':=Lib.hid (HW.out.trans (hb.mono HW.out.size))
 have HWS':=Lib.hid (Nat.le_trans hW hb.size)
 have O1':=Lib.hid (O1.out.grew (Grew.called (lo:=w.heap.size+2) hb) (by first | exact L1.out | omega))
 have O2':=Lib.hid (O2.out.grew (Grew.called (lo:=w.heap.size+2) hb) (by first | exact L2.out | omega))
 have O5':=Lib.hid (O5.out.grew (Grew.called (lo:=w.heap.size+2) hb) (by first | exact L5.out | omega))
 clear HB HZ HW HWS O1 O2 O5
 have HB:=HB'
 have HZ:=HZ'
 have HW:=HW'
 have HWS:=HWS'
 have O1:=O1'
 have O2:=O2'
 have O5:=O5'
 clear HB' HZ' HW' HWS' O1' O2' O5'
 have L6:Hid (w.heap.size+2<=W3.heap.size):=Lib.hid hW
 have M6:Hid (W3.heap.size<=w4.heap.size):=Lib.hid hb.size
 clear hb hW
 have cc:=Qa HB.out 6 _ rfl
 have ff:w4.frozen? ⟨w.heap.size,6,none⟩=false:=frozen_of_row _ _ _ _ _ HB.out
 have hB':(w4.setCell ⟨w.heap.size,6,none⟩ (.slice a6' n6' c6')).heap[w.heap.size]? = some (.cells #[.int .i64 pc,.slice a1' n1' c1',.slice a2' n2' c2',.bool last,.bool redo,.slice a5' n5' c5',.slice a6' n6' c6',.slice a7 n7 c7,.slice a8 n8 c8,.slice a9 n9 c9,.slice a10 n10 c10,.slice a11 n11 c11,.int .i64 loss,.bool sat] 32 (0,0)):=by
  have:=heap_setCell_same w4 w.heap.size 6 _ _ (.slice a6' n6' c6') HB.out
  simpa only [List.setIfInBounds_toArray,List.set_cons_zero,List.set_cons_succ] using this
 have hZ':(w4.setCell ⟨w.heap.size,6,none⟩ (.slice a6' n6' c6')).heap[w.heap.size+1]? = some (.cells Zj 32 (0,0)):=(Below.heap_setCell _ _ _ _ (by show w.heap.size+1≠w.heap.size;omega)).trans HZ.out
 have hW':=HW.out.setCell (p:=⟨w.heap.size,6,none⟩) (Nat.le_refl _) (.slice a6' n6' c6')
 have hS':(w4.setCell ⟨w.heap.size,6,none⟩ (.slice a6' n6' c6')).heap.size=w4.heap.size:=by simp
 have SB:=Lib.hid hB'
 have SZ:=Lib.hid hZ'
 have SW:=Lib.hid hW'
 have SS:=Lib.hid hS'
 have SO1:=Lib.hid (O1.out.grew (Grew.stored (lo:=w.heap.size+2) (g:=w.heap.size) (by omega) w4 6 (.slice a6' n6' c6')) L1.out)
 have SO2:=Lib.hid (O2.out.grew (Grew.stored (lo:=w.heap.size+2) (g:=w.heap.size) (by omega) w4 6 (.slice a6' n6' c6')) L2.out)
 have SO5:=Lib.hid (O5.out.grew (Grew.stored (lo:=w.heap.size+2) (g:=w.heap.size) (by omega) w4 6 (.slice a6' n6' c6')) L5.out)
 have SO6:=Lib.hid (O6.out.grew (Grew.stored (lo:=w.heap.size+2) (g:=w.heap.size) (by omega) w4 6 (.slice a6' n6' c6')) L6.out)
 clear hB' hZ' hW' hS'
 go_upto_region 5 with fail
 clear cc ff
 generalize w4.setCell ⟨w.heap.size,6,none⟩ (.slice a6' n6' c6')=W4 at SB SZ SW SS SO1 SO2 SO5 SO6 |-
 have SWS:Hid (w.heap.size+2<=W4.heap.size):=Lib.hid (by have:=SS.out;have:=HWS.out;omega)
 clear HB HZ HW HWS O1 O2 O5 O6
 have HB:=SB
 have HZ:=SZ
 have HW:=SW
 have HWS:=SWS
 have O1:=SO1
 have O2:=SO2
 have O5:=SO5
 have O6:=SO6
 have T6:Hid (W4.heap.size=w4.heap.size):=SS
 clear SB SZ SW SS SWS SO1 SO2 SO5 SO6
 have hd:Below W4.heap.size W4 W4.drew:=(Below.refl _ _).drew
 have HD:=Lib.hid hd
 have hS0:W4.drew.cell? ⟨w.heap.size,7,none⟩=some (.slice a7 n7 c7)/\W4.drew.cell? ⟨w.heap.size,8,none⟩=some (.slice a8 n8 c8):=⟨Qa HB.out 7 _ rfl,Qa HB.out 8 _ rfl⟩
 clear hd
 refine Qfr (Z:=[7,8,9]) (S:=fun wx=>wx.cell? ⟨w.heap.size,7,none⟩=some (.slice a7 n7 c7)/\wx.cell? ⟨w.heap.size,8,none⟩=some (.slice a8 n8 c8)) (by kernel_rfl) ?_
 refine J6 (i:=0) (v:= ?_) rfl (by decide) (by kernel_rfl) (by kernel_rfl) (by kernel_rfl) (fun _ _ _ h=>h) (Or.inl ⟨by rfl,?_⟩) hS0 ?_
 rotate_left
 ·(intro wS hS;obtain ⟨sA,sB⟩:=hS;go_simp;try with_reducible rfl)
 simp only [Act.put,List.setIfInBounds_toArray,List.set_cons_zero,List.set_cons_succ]
 refine J6 (i:=1) (v:= ?_) rfl (by decide) (by kernel_rfl) (by kernel_rfl) (by kernel_rfl) (fun _ _ _ h=>h) (Or.inl ⟨by rfl,?_⟩) hS0 ?_
 rotate_left
 ·(intro wS hS;obtain ⟨sA,sB⟩:=hS;go_simp;try with_reducible rfl)
 simp only [Act.put,List.setIfInBounds_toArray,List.set_cons_zero,List.set_cons_succ]
 refine J6 (i:=3) (v:= ?_) rfl (by decide) (by kernel_rfl) (by kernel_rfl) (by kernel_rfl) (fun _ _ _ h=>h) (Or.inl ⟨by rfl,?_⟩) hS0 ?_
 rotate_left
 ·(intro wS hS;obtain ⟨sA,sB⟩:=hS;go_simp;try with_reducible rfl)
 simp only [Act.put,List.setIfInBounds_toArray,List.set_cons_zero,List.set_cons_succ]
 refine J6 (i:=4) (v:= ?_) rfl (by decide) (by kernel_rfl) (by kernel_rfl) (by kernel_rfl) (fun _ _ _ h=>h) (Or.inl ⟨by rfl,?_⟩) hS0 ?_
 rotate_left
 ·(intro wS hS;obtain ⟨sA,sB⟩:=hS;go_simp;try with_reducible rfl)
 simp only [Act.put,List.setIfInBounds_toArray,List.set_cons_zero,List.set_cons_succ]
 refine J7 (i:=2) (by kernel_rfl) rfl (by rfl) (fun K hK => ?_)
 go_simp
 refine (C7.out W4.drew (HW.out.trans (HD.out.mono HW.out.size))).mono ?_
 rintro e w5 ⟨a7',c7',rfl,hl,hb0⟩
 have hb:Below W4.heap.size W4 w5:=HD.out.trans hb0
 have ho:OwnI Owned.int (by decide) W4.heap.size w5.heap.size w5 (.slice a7' n7 c7') xs:=OwnI.ofRow hl
 have O7:=Lib.hid ho
 clear ho hl hb0 HD
 have hW:=HWS.out
 have HB':=Lib.hid ((hb.block w.heap.size (by omega)).trans HB.out)
 have HZ':=Lib.hid ((hb.block (w.heap.size+1) (by omega)).trans HZ.out)
 have HW':=Lib.hid (HW.out.trans (hb.mono HW.out.size))
 have HWS':=Lib.hid (Nat.le_trans hW hb.size)
 have O1':=Lib.hid (O1.out.grew (Grew.called (lo:=w.heap.size+2) hb) (by first | exact L1.out | omega))
 have O2':=Lib.hid (O2.out.grew (Grew.called (lo:=w.heap.size+2) hb) (by first | exact L2.out | omega))
 have O5':=Lib.hid (O5.out.grew (Grew.called (lo:=w.heap.size+2) hb) (by first | exact L5.out | omega))
 have O6':=Lib.hid (O6.out.grew (Grew.called (lo:=w.heap.size+2) hb) (by first | exact L6.out | omega))
 clear HB HZ HW HWS O1 O2 O5 O6
 have HB:=HB'
 have HZ:=HZ'
 have HW:=HW'
 have HWS:=HWS'
 have O1:=O1'
 have O2:=O2'
 have O5:=O5'
 have O6:=O6'
 clear HB' HZ' HW' HWS' O1' O2' O5' O6'
 have L7:Hid (w.heap.size+2<=W4.heap.size):=Lib.hid hW
 have M7:Hid (W4.heap.size<=w5.heap.size):=Lib.hid hb.size
 clear hb hW
 have hS1:w5.cell? ⟨w.heap.size,7,none⟩=some (.slice a7 n7 c7)/\w5.cell? ⟨w.heap.size,8,none⟩=some (.slice a8 n8 c8):=⟨Qa HB.out 7 _ rfl,Qa HB.out 8 _ rfl⟩
 refine hK _ _ (.inr hS1) ?_
 try simp only [Act.put,List.setIfInBounds_toArray,List.set_cons_zero,List.set_cons_succ]
 clear hK
 refine J6 (i:=6) (v:= ?_) rfl (by decide) (by kernel_rfl) (by kernel_rfl) (by kernel_rfl) (fun _ _ _ h=>h) (Or.inl ⟨by rfl,?_⟩) hS1 ?_
 rotate_left
 ·(intro wS hS;obtain ⟨sA,sB⟩:=hS;go_simp;try with_reducible rfl)
 simp only [Act.put,List.setIfInBounds_toArray,List.set_cons_zero,List.set_cons_succ]
 refine J7 (i:=5) (by kernel_rfl) rfl (by rfl) (fun K hK => ?_)
 go_simp
 refine (C8.out w5 HW.out).mono ?_
 rintro e w6 ⟨a8',c8',rfl,hl,hb⟩
 have ho:OwnI Owned.int (by decide) w5.heap.size w6.heap.size w6 (.slice a8' n8 c8') ys:=OwnI.ofRow hl
 have O8:=Lib.hid ho
 clear ho hl hS0 hS1
 have hW:=HWS.out
 have HB':=Lib.hid ((hb.block w.heap.size (by omega)).trans HB.out)
 have HZ':=Lib.hid ((hb.block (w.heap.size+1) (by omega)).trans HZ.out)
 have HW':=Lib.hid (HW.out.trans (hb.mono HW.out.size))
 have HWS':=Lib.hid (Nat.le_trans hW hb.size)
 have O1':=Lib.hid (O1.out.grew (Grew.called (lo:=w.heap.size+2) hb) (by first | exact L1.out | omega))
 have O2':=Lib.hid (O2.out.grew (Grew.called (lo:=w.heap.size+2) hb) (by first | exact L2.out | omega))
 have O5':=Lib.hid (O5.out.grew (Grew.called (lo:=w.heap.size+2) hb) (by first | exact L5.out | omega))
 have O6':=Lib.hid (O6.out.grew (Grew.called (lo:=w.heap.size+2) hb) (by first | exact L6.out | omega))
 have O7':=Lib.hid (O7.out.grew (Grew.called (lo:=w.heap.size+2) hb) (by first | exact L7.out | omega))
 clear HB HZ HW HWS O1 O2 O5 O6 O7
 have HB:=HB'
 have HZ:=HZ'
 have HW:=HW'
 have HWS:=HWS'
 have O1:=O1'
 have O2:=O2'
 have O5:=O5'
 have O6:=O6'
 have O7:=O7'
 clear HB' HZ' HW' HWS' O1' O2' O5' O6' O7'
 have L8:Hid (w.heap.size+2<=w5.heap.size):=Lib.hid hW
 have M8:Hid (w5.heap.size<=w6.heap.size):=Lib.hid hb.size
 clear hb hW
 have hS2:w6.cell? ⟨w.heap.size,7,none⟩=some (.slice a7 n7 c7)/\w6.cell? ⟨w.heap.size,8,none⟩=some (.slice a8 n8 c8):=⟨Qa HB.out 7 _ rfl,Qa HB.out 8 _ rfl⟩
 refine hK _ _ (.inr hS2) ?_
 try simp only [Act.put,List.setIfInBounds_toArray,List.set_cons_zero,List.set_cons_succ]
 clear hK
 obtain ⟨s0,s1⟩:=hS2
 have f0:w6.frozen? ⟨w.heap.size,7,none⟩=false:=frozen_of_row _ _ _ _ _ HB.out
 refine J7 (i:=7) (by kernel_rfl) rfl (by rfl) (fun K hK => ?_)
 go_simp
 refine hK _ _ (.inl (Qed (by kernel_rfl))) ?_
 try simp only [Act.put,List.setIfInBounds_toArray,List.set_cons_zero,List.set_cons_succ]
 clear hK s0 s1 f0
 have hB':(w6.setCell ⟨w.heap.size,7,none⟩ (.slice a7' n7 c7')).heap[w.heap.size]? = some (.cells #[.int .i64 pc,.slice a1' n1' c1',.slice a2' n2' c2',.bool last,.bool redo,.slice a5' n5' c5',.slice a6' n6' c6',.slice a7' n7 c7',.slice a8 n8 c8,.slice a9 n9 c9,.slice a10 n10 c10,.slice a11 n11 c11,.int .i64 loss,.bool sat] 32 (0,0)):=by
  have:=heap_setCell_same w6 w.heap.size 7 _ _ (.slice a7' n7 c7') HB.out
  simpa only [List.setIfInBounds_toArray,List.set_cons_zero,List.set_cons_succ] using this
 have hZ':(w6.setCell ⟨w.heap.size,7,none⟩ (.slice a7' n7 c7')).heap[w.heap.size+1]? = some (.cells Zj 32 (0,0)):=(Below.heap_setCell _ _ _ _ (by show w.heap.size+1≠w.heap.size;omega)).trans HZ.out
 have hW':=HW.out.setCell (p:=⟨w.heap.size,7,none⟩) (Nat.le_refl _) (.slice a7' n7 c7')
 have hS':(w6.setCell ⟨w.heap.size,7,none⟩ (.slice a7' n7 c7')).heap.size=w6.heap.size:=by simp
 have SB:=Lib.hid hB'
 have SZ:=Lib.hid hZ'
 have SW:=Lib.hid hW'
 have SS:=Lib.hid hS'
 have SO1:=Lib.hid (O1.out.grew (Grew.stored (lo:=w.heap.size+2) (g:=w.heap.size) (by omega) w6 7 (.slice a7' n7 c7')) L1.out)
 have SO2:=Lib.hid (O2.out.grew (Grew.stored (lo:=w.heap.size+2) (g:=w.heap.size) (by omega) w6 7 (.slice a7' n7 c7')) L2.out)
 have SO5:=Lib.hid (O5.out.grew (Grew.stored (lo:=w.heap.size+2) (g:=w.heap.size) (by omega) w6 7 (.slice a7' n7 c7')) L5.out)
 have SO6:=Lib.hid (O6.out.grew (Grew.stored (lo:=w.heap.size+2) (g:=w.heap.size) (by omega) w6 7 (.slice a7' n7 c7')) L6.out)
 have SO7:=Lib.hid (O7.out.grew (Grew.stored (lo:=w.heap.size+2) (g:=w.heap.size) (by omega) w6 7 (.slice a7' n7 c7')) L7.out)
 have SO8:=Lib.hid (O8.out.grew (Grew.stored (lo:=w.heap.size+2) (g:=w.heap.size) (by omega) w6 7 (.slice a7' n7 c7')) L8.out)
 clear hB' hZ' hW' hS'
 generalize w6.setCell ⟨w.heap.size,7,none⟩ (.slice a7' n7 c7')=Y5 at SB SZ SW SS SO1 SO2 SO5 SO6 SO7 SO8 |-
 have SWS:Hid (w.heap.size+2<=Y5.heap.size):=Lib.hid (by have:=SS.out;have:=HWS.out;omega)
 clear HB HZ HW HWS O1 O2 O5 O6 O7 O8
 have HB:=SB
 have HZ:=SZ
 have HW:=SW
 have HWS:=SWS
 have O1:=SO1
 have O2:=SO2
 have O5:=SO5
 have O6:=SO6
 have O7:=SO7
 have O8:=SO8
 have T7:Hid (Y5.heap.size=w6.heap.size):=SS
 clear SB SZ SW SS SWS SO1 SO2 SO5 SO6 SO7 SO8
 refine J7 (i:=8) (by kernel_rfl) rfl (by rfl) (fun K hK => ?_)
 go_simp
 refine hK _ _ (.inl (Qed (by kernel_rfl))) ?_
 try simp only [Act.put,List.setIfInBounds_toArray,List.set_cons_zero,List.set_cons_succ]
 clear hK
 have s1:=Qa HB.out 8 _ rfl
 have f1:Y5.frozen? ⟨w.heap.size,8,none⟩=false:=frozen_of_row _ _ _ _ _ HB.out
 refine J7 (i:=9) (by kernel_rfl) rfl (by rfl) (fun K hK => ?_)
 go_simp
 refine hK _ _ (.inl (Qed (by kernel_rfl))) ?_
 try simp only [Act.put,List.setIfInBounds_toArray,List.set_cons_zero,List.set_cons_succ]
 clear hK s1 f1
 refine Qjn (by kernel_rfl) ?_ _
 have hB':(Y5.setCell ⟨w.heap.size,8,none⟩ (.slice a8' n8 c8')).heap[w.heap.size]? = some (.cells #[.int .i64 pc,.slice a1' n1' c1',.slice a2' n2' c2',.bool last,.bool redo,.slice a5' n5' c5',.slice a6' n6' c6',.slice a7' n7 c7',.slice a8' n8 c8',.slice a9 n9 c9,.slice a10 n10 c10,.slice a11 n11 c11,.int .i64 loss,.bool sat] 32 (0,0)):=by
  have:=heap_setCell_same Y5 w.heap.size 8 _ _ (.slice a8' n8 c8') HB.out
  simpa only [List.setIfInBounds_toArray,List.set_cons_zero,List.set_cons_succ] using this
 have hZ':(Y5.setCell ⟨w.heap.size,8,none⟩ (.slice a8' n8 c8')).heap[w.heap.size+1]? = some (.cells Zj 32 (0,0)):=(Below.heap_setCell _ _ _ _ (by show w.heap.size+1≠w.heap.size;omega)).trans HZ.out
 have hW':=HW.out.setCell (p:=⟨w.heap.size,8,none⟩) (Nat.le_refl _) (.slice a8' n8 c8')
 have hS':(Y5.setCell ⟨w.heap.size,8,none⟩ (.slice a8' n8 c8')).heap.size=Y5.heap.size:=by simp
 have SB:=Lib.hid hB'
 have SZ:=Lib.hid hZ'
 have SW:=Lib.hid hW'
 have SS:=Lib.hid hS'
 have SO1:=Lib.hid (O1.out.grew (Grew.stored (lo:=w.heap.size+2) (g:=w.heap.size) (by omega) Y5 8 (.slice a8' n8 c8')) L1.out)
 have SO2:=Lib.hid (O2.out.grew (Grew.stored (lo:=w.heap.size+2) (g:=w.heap.size) (by omega) Y5 8 (.slice a8' n8 c8')) L2.out)
 have SO5:=Lib.hid (O5.out.grew (Grew.stored (lo:=w.heap.size+2) (g:=w.heap.size) (by omega) Y5 8 (.slice a8' n8 c8')) L5.out)
 have SO6:=Lib.hid (O6.out.grew (Grew.stored (lo:=w.heap.size+2) (g:=w.heap.size) (by omega) Y5 8 (.slice a8' n8 c8')) L6.out)
 have SO7:=Lib.hid (O7.out.grew (Grew.stored (lo:=w.heap.size+2) (g:=w.heap.size) (by omega) Y5 8 (.slice a8' n8 c8')) L7.out)
 have SO8:=Lib.hid (O8.out.grew (Grew.stored (lo:=w.heap.size+2) (g:=w.heap.size) (by omega) Y5 8 (.slice a8' n8 c8')) L8.out)
 clear hB' hZ' hW' hS'
 generalize Y5.setCell ⟨w.heap.size,8,none⟩ (.slice a8' n8 c8')=W6 at SB SZ SW SS SO1 SO2 SO5 SO6 SO7 SO8 |-
 have SWS:Hid (w.heap.size+2<=W6.heap.size):=Lib.hid (by have:=SS.out;have:=HWS.out;omega)
 clear HB HZ HW HWS O1 O2 O5 O6 O7 O8
 have HB:=SB
 have HZ:=SZ
 have HW:=SW
 have HWS:=SWS
 have O1:=SO1
 have O2:=SO2
 have O5:=SO5
 have O6:=SO6
 have O7:=SO7
 have O8:=SO8
 have T8:Hid (W6.heap.size=Y5.heap.size):=SS
 clear SB SZ SW SS SWS SO1 SO2 SO5 SO6 SO7 SO8
 go_upto_region 6 with fail
 have hd:Below W6.heap.size W6 W6.drew:=(Below.refl _ _).drew
 have HD:=Lib.hid hd
 have hS0:W6.drew.cell? ⟨w.heap.size,9,none⟩=some (.slice a9 n9 c9)/\W6.drew.cell? ⟨w.heap.size,10,none⟩=some (.slice a10 n10 c10):=⟨Qa HB.out 9 _ rfl,Qa HB.out 10 _ rfl⟩
 clear hd
 refine Qfr (Z:=[7,8,9]) (S:=fun wx=>wx.cell? ⟨w.heap.size,9,none⟩=some (.slice a9 n9 c9)/\wx.cell? ⟨w.heap.size,10,none⟩=some (.slice a10 n10 c10)) (by kernel_rfl) ?_
 refine J6 (i:=0) (v:= ?_) rfl (by decide) (by kernel_rfl) (by kernel_rfl) (by kernel_rfl) (fun _ _ _ h=>h) (Or.inl ⟨by rfl,?_⟩) hS0 ?_
 rotate_left
 ·(intro wS hS;obtain ⟨sA,sB⟩:=hS;go_simp;try with_reducible rfl)
 simp only [Act.put,List.setIfInBounds_toArray,List.set_cons_zero,List.set_cons_succ]
 refine J6 (i:=1) (v:= ?_) rfl (by decide) (by kernel_rfl) (by kernel_rfl) (by kernel_rfl) (fun _ _ _ h=>h) (Or.inl ⟨by rfl,?_⟩) hS0 ?_
 rotate_left
 ·(intro wS hS;obtain ⟨sA,sB⟩:=hS;go_simp;try with_reducible rfl)
 simp only [Act.put,List.setIfInBounds_toArray,List.set_cons_zero,List.set_cons_succ]
 refine J6 (i:=3) (v:= ?_) rfl (by decide) (by kernel_rfl) (by kernel_rfl) (by kernel_rfl) (fun _ _ _ h=>h) (Or.inl ⟨by rfl,?_⟩) hS0 ?_
 rotate_left
 ·(intro wS hS;obtain ⟨sA,sB⟩:=hS;go_simp;try with_reducible rfl)
 simp only [Act.put,List.setIfInBounds_toArray,List.set_cons_zero,List.set_cons_succ]
 refine J6 (i:=4) (v:= ?_) rfl (by decide) (by kernel_rfl) (by kernel_rfl) (by kernel_rfl) (fun _ _ _ h=>h) (Or.inl ⟨by rfl,?_⟩) hS0 ?_
 rotate_left
 ·(intro wS hS;obtain ⟨sA,sB⟩:=hS;go_simp;try with_reducible rfl)
 simp only [Act.put,List.setIfInBounds_toArray,List.set_cons_zero,List.set_cons_succ]
 refine J7 (i:=2) (by kernel_rfl) rfl (by rfl) (fun K hK => ?_)
 go_simp
 refine (C9.out W6.drew (HW.out.trans (HD.out.mono HW.out.size))).mono ?_
 rintro e w7 ⟨a9',c9',rfl,hl,hb0⟩
 have hb:Below W6.heap.size W6 w7:=HD.out.trans hb0
 have ho:OwnI Owned.int (by decide) W6.heap.size w7.heap.size w7 (.slice a9' n9 c9') gs:=OwnI.ofRow hl
 have O9:=Lib.hid ho
 clear ho hl hb0 HD
 have hW:=HWS.out
 have HB':=Lib.hid ((hb.block w.heap.size (by omega)).trans HB.out)
 have HZ':=Lib.hid ((hb.block (w.heap.size+1) (by omega)).trans HZ.out)
 have HW':=Lib.hid (HW.out.trans (hb.mono HW.out.size))
 have HWS':=Lib.hid (Nat.le_trans hW hb.size)
 have O1':=Lib.hid (O1.out.grew (Grew.called (lo:=w.heap.size+2) hb) (by first | exact L1.out | omega))
 have O2':=Lib.hid (O2.out.grew (Grew.called (lo:=w.heap.size+2) hb) (by first | exact L2.out | omega))
 have O5':=Lib.hid (O5.out.grew (Grew.called (lo:=w.heap.size+2) hb) (by first | exact L5.out | omega))
 have O6':=Lib.hid (O6.out.grew (Grew.called (lo:=w.heap.size+2) hb) (by first | exact L6.out | omega))
 have O7':=Lib.hid (O7.out.grew (Grew.called (lo:=w.heap.size+2) hb) (by first | exact L7.out | omega))
 have O8':=Lib.hid (O8.out.grew (Grew.called (lo:=w.heap.size+2) hb) (by first | exact L8.out | omega))
 clear HB HZ HW HWS O1 O2 O5 O6 O7 O8
 have HB:=HB'
 have HZ:=HZ'
 have HW:=HW'
 have HWS:=HWS'
 have O1:=O1'
 have O2:=O2'
 have O5:=O5'
 have O6:=O6'
 have O7:=O7'
 have O8:=O8'
 clear HB' HZ' HW' HWS' O1' O2' O5' O6' O7' O8'
 have L9:Hid (w.heap.size+2<=W6.heap.size):=Lib.hid hW
 have M9:Hid (W6.heap.size<=w7.heap.size):=Lib.hid hb.size
 clear hb hW
 have hS1:w7.cell? ⟨w.heap.size,9,none⟩=some (.slice a9 n9 c9)/\w7.cell? ⟨w.heap.size,10,none⟩=some (.slice a10 n10 c10):=⟨Qa HB.out 9 _ rfl,Qa HB.out 10 _ rfl⟩
 refine hK _ _ (.inr hS1) ?_
 try simp only [Act.put,List.setIfInBounds_toArray,List.set_cons_zero,List.set_cons_succ]
 clear hK
 refine J6 (i:=6) (v:= ?_) rfl (by decide) (by kernel_rfl) (by kernel_rfl) (by kernel_rfl) (fun _ _ _ h=>h) (Or.inl ⟨by rfl,?_⟩) hS1 ?_
 rotate_left
 ·(intro wS hS;obtain ⟨sA,sB⟩:=hS;go_simp;try with_reducible rfl)
 simp only [Act.put,List.setIfInBounds_toArray,List.set_cons_zero,List.set_cons_succ]
 refine J7 (i:=5) (by kernel_rfl) rfl (by rfl) (fun K hK => ?_)
 go_simp
 refine (C10.out w7 HW.out).mono ?_
 rintro e w8 ⟨a10',c10',rfl,hl,hb⟩
 have ho:OwnI Owned.int (by decide) w7.heap.size w8.heap.size w8 (.slice a10' n10 c10') ds:=OwnI.ofRow hl
 have O10:=Lib.hid ho
 clear ho hl hS0 hS1
 have hW:=HWS.out
 have HB':=Lib.hid ((hb.block w.heap.size (by omega)).trans HB.out)
 have HZ':=Lib.hid ((hb.block (w.heap.size+1) (by omega)).trans HZ.out)
 have HW':=Lib.hid (HW.out.trans (hb.mono HW.out.size))
 have HWS':=Lib.hid (Nat.le_trans hW hb.size)
 have O1':=Lib.hid (O1.out.grew (Grew.called (lo:=w.heap.size+2) hb) (by first | exact L1.out | omega))
 have O2':=Lib.hid (O2.out.grew (Grew.called (lo:=w.heap.size+2) hb) (by first | exact L2.out | omega))
 have O5':=Lib.hid (O5.out.grew (Grew.called (lo:=w.heap.size+2) hb) (by first | exact L5.out | omega))
 have O6':=Lib.hid (O6.out.grew (Grew.called (lo:=w.heap.size+2) hb) (by first | exact L6.out | omega))
 have O7':=Lib.hid (O7.out.grew (Grew.called (lo:=w.heap.size+2) hb) (by first | exact L7.out | omega))
 have O8':=Lib.hid (O8.out.grew (Grew.called (lo:=w.heap.size+2) hb) (by first | exact L8.out | omega))
 have O9':=Lib.hid (O9.out.grew (Grew.called (lo:=w.heap.size+2) hb) (by first | exact L9.out | omega))
 clear HB HZ HW HWS O1 O2 O5 O6 O7 O8 O9
 have HB:=HB'
 have HZ:=HZ'
 have HW:=HW'
 have HWS:=HWS'
 have O1:=O1'
 have O2:=O2'
 have O5:=O5'
 have O6:=O6'
 have O7:=O7'
 have O8:=O8'
 have O9:=O9'
 clear HB' HZ' HW' HWS' O1' O2' O5' O6' O7' O8' O9'
 have L10:Hid (w.heap.size+2<=w7.heap.size):=Lib.hid hW
 have M10:Hid (w7.heap.size<=w8.heap.size):=Lib.hid hb.size
 clear hb hW
 have hS2:w8.cell? ⟨w.heap.size,9,none⟩=some (.slice a9 n9 c9)/\w8.cell? ⟨w.heap.size,10,none⟩=some (.slice a10 n10 c10):=⟨Qa HB.out 9 _ rfl,Qa HB.out 10 _ rfl⟩
 refine hK _ _ (.inr hS2) ?_
 try simp only [Act.put,List.setIfInBounds_toArray,List.set_cons_zero,List.set_cons_succ]
 clear hK
 obtain ⟨s0,s1⟩:=hS2
 have f0:w8.frozen? ⟨w.heap.size,9,none⟩=false:=frozen_of_row _ _ _ _ _ HB.out
 refine J7 (i:=7) (by kernel_rfl) rfl (by rfl) (fun K hK => ?_)
 go_simp
 refine hK _ _ (.inl (Qed (by kernel_rfl))) ?_
 try simp only [Act.put,List.setIfInBounds_toArray,List.set_cons_zero,List.set_cons_succ]
 clear hK s0 s1 f0
 have hB':(w8.setCell ⟨w.heap.size,9,none⟩ (.slice a9' n9 c9')).heap[w.heap.size]? = some (.cells #[.int .i64 pc,.slice a1' n1' c1',.slice a2' n2' c2',.bool last,.bool redo,.slice a5' n5' c5',.slice a6' n6' c6',.slice a7' n7 c7',.slice a8' n8 c8',.slice a9' n9 c9',.slice a10 n10 c10,.slice a11 n11 c11,.int .i64 loss,.bool sat] 32 (0,0)):=by
  have:=heap_setCell_same w8 w.heap.size 9 _ _ (.slice a9' n9 c9') HB.out
  simpa only [List.setIfInBounds_toArray,List.set_cons_zero,List.set_cons_succ] using this
 have hZ':(w8.setCell ⟨w.heap.size,9,none⟩ (.slice a9' n9 c9')).heap[w.heap.size+1]? = some (.cells Zj 32 (0,0)):=(Below.heap_setCell _ _ _ _ (by show w.heap.size+1≠w.heap.size;omega)).trans HZ.out
 have hW':=HW.out.setCell (p:=⟨w.heap.size,9,none⟩) (Nat.le_refl _) (.slice a9' n9 c9')
 have hS':(w8.setCell ⟨w.heap.size,9,none⟩ (.slice a9' n9 c9')).heap.size=w8.heap.size:=by simp
 have SB:=Lib.hid hB'
 have SZ:=Lib.hid hZ'
 have SW:=Lib.hid hW'
 have SS:=Lib.hid hS'
 have SO1:=Lib.hid (O1.out.grew (Grew.stored (lo:=w.heap.size+2) (g:=w.heap.size) (by omega) w8 9 (.slice a9' n9 c9')) L1.out)
 have SO2:=Lib.hid (O2.out.grew (Grew.stored (lo:=w.heap.size+2) (g:=w.heap.size) (by omega) w8 9 (.slice a9' n9 c9')) L2.out)
 have SO5:=Lib.hid (O5.out.grew (Grew.stored (lo:=w.heap.size+2) (g:=w.heap.size) (by omega) w8 9 (.slice a9' n9 c9')) L5.out)
 have SO6:=Lib.hid (O6.out.grew (Grew.stored (lo:=w.heap.size+2) (g:=w.heap.size) (by omega) w8 9 (.slice a9' n9 c9')) L6.out)
 have SO7:=Lib.hid (O7.out.grew (Grew.stored (lo:=w.heap.size+2) (g:=w.heap.size) (by omega) w8 9 (.slice a9' n9 c9')) L7.out)
 have SO8:=Lib.hid (O8.out.grew (Grew.stored (lo:=w.heap.size+2) (g:=w.heap.size) (by omega) w8 9 (.slice a9' n9 c9')) L8.out)
 have SO9:=Lib.hid (O9.out.grew (Grew.stored (lo:=w.heap.size+2) (g:=w.heap.size) (by omega) w8 9 (.slice a9' n9 c9')) L9.out)
 have SO10:=Lib.hid (O10.out.grew (Grew.stored (lo:=w.heap.size+2) (g:=w.heap.size) (by omega) w8 9 (.slice a9' n9 c9')) L10.out)
 clear hB' hZ' hW' hS'
 generalize w8.setCell ⟨w.heap.size,9,none⟩ (.slice a9' n9 c9')=Y7 at SB SZ SW SS SO1 SO2 SO5 SO6 SO7 SO8 SO9 SO10 |-
 have SWS:Hid (w.heap.size+2<=Y7.heap.size):=Lib.hid (by have:=SS.out;have:=HWS.out;omega)
 clear HB HZ HW HWS O1 O2 O5 O6 O7 O8 O9 O10
 have HB:=SB
 have HZ:=SZ
 have HW:=SW
 have HWS:=SWS
 have O1:=SO1
 have O2:=SO2
 have O5:=SO5
 have O6:=SO6
 have O7:=SO7
 have O8:=SO8
 have O9:=SO9
 have O10:=SO10
 have T9:Hid (Y7.heap.size=w8.heap.size):=SS
 clear SB SZ SW SS SWS SO1 SO2 SO5 SO6 SO7 SO8 SO9 SO10
 refine J7 (i:=8) (by kernel_rfl) rfl (by rfl) (fun K hK => ?_)
 go_simp
 refine hK _ _ (.inl (Qed (by kernel_rfl))) ?_
 try simp only [Act.put,List.setIfInBounds_toArray,List.set_cons_zero,List.set_cons_succ]
 clear hK
 have s1:=Qa HB.out 10 _ rfl
 have f1:Y7.frozen? ⟨w.heap.size,10,none⟩=false:=frozen_of_row _ _ _ _ _ HB.out
 refine J7 (i:=9) (by kernel_rfl) rfl (by rfl) (fun K hK => ?_)
 go_simp
 refine hK _ _ (.inl (Qed (by kernel_rfl))) ?_
 try simp only [Act.put,List.setIfInBounds_toArray,List.set_cons_zero,List.set_cons_succ]
 clear hK s1 f1
 refine Qjn (by kernel_rfl) ?_ _
 have hB':(Y7.setCell ⟨w.heap.size,10,none⟩ (.slice a10' n10 c10')).heap[w.heap.size]? = some (.cells #[.int .i64 pc,.slice a1' n1' c1',.slice a2' n2' c2',.bool last,.bool redo,.slice a5' n5' c5',.slice a6' n6' c6',.slice a7' n7 c7',.slice a8' n8 c8',.slice a9' n9 c9',.slice a10' n10 c10',.slice a11 n11 c11,.int .i64 loss,.bool sat] 32 (0,0)):=by
  have:=heap_setCell_same Y7 w.heap.size 10 _ _ (.slice a10' n10 c10') HB.out
  simpa only [List.setIfInBounds_toArray,List.set_cons_zero,List.set_cons_succ] using this
 have hZ':(Y7.setCell ⟨w.heap.size,10,none⟩ (.slice a10' n10 c10')).heap[w.heap.size+1]? = some (.cells Zj 32 (0,0)):=(Below.heap_setCell _ _ _ _ (by show w.heap.size+1≠w.heap.size;omega)).trans HZ.out
 have hW':=HW.out.setCell (p:=⟨w.heap.size,10,none⟩) (Nat.le_refl _) (.slice a10' n10 c10')
 have hS':(Y7.setCell ⟨w.heap.size,10,none⟩ (.slice a10' n10 c10')).heap.size=Y7.heap.size:=by simp
 have SB:=Lib.hid hB'
 have SZ:=Lib.hid hZ'
 have SW:=Lib.hid hW'
 have SS:=Lib.hid hS'
 have SO1:=Lib.hid (O1.out.grew (Grew.stored (lo:=w.heap.size+2) (g:=w.heap.size) (by omega) Y7 10 (.slice a10' n10 c10')) L1.out)
 have SO2:=Lib.hid (O2.out.grew (Grew.stored (lo:=w.heap.size+2) (g:=w.heap.size) (by omega) Y7 10 (.slice a10' n10 c10')) L2.out)
 have SO5:=Lib.hid (O5.out.grew (Grew.stored (lo:=w.heap.size+2) (g:=w.heap.size) (by omega) Y7 10 (.slice a10' n10 c10')) L5.out)
 have SO6:=Lib.hid (O6.out.grew (Grew.stored (lo:=w.heap.size+2) (g:=w.heap.size) (by omega) Y7 10 (.slice a10' n10 c10')) L6.out)
 have SO7:=Lib.hid (O7.out.grew (Grew.stored (lo:=w.heap.size+2) (g:=w.heap.size) (by omega) Y7 10 (.slice a10' n10 c10')) L7.out)
 have SO8:=Lib.hid (O8.out.grew (Grew.stored (lo:=w.heap.size+2) (g:=w.heap.size) (by omega) Y7 10 (.slice a10' n10 c10')) L8.out)
 have SO9:=Lib.hid (O9.out.grew (Grew.stored (lo:=w.heap.size+2) (g:=w.heap.size) (by omega) Y7 10 (.slice a10' n10 c10')) L9.out)
 have SO10:=Lib.hid (O10.out.grew (Grew.stored (lo:=w.heap.size+2) (g:=w.heap.size) (by omega) Y7 10 (.slice a10' n10 c10')) L10.out)
 clear hB' hZ' hW' hS'
 generalize Y7.setCell ⟨w.heap.size,10,none⟩ (.slice a10' n10 c10')=W8 at SB SZ SW SS SO1 SO2 SO5 SO6 SO7 SO8 SO9 SO10 |-
 have SWS:Hid (w.heap.size+2<=W8.heap.size):=Lib.hid (by have:=SS.out;have:=HWS.out;omega)
 clear HB HZ HW HWS O1 O2 O5 O6 O7 O8 O9 O10
 have HB:=SB
 have HZ:=SZ
 have HW:=SW
 have HWS:=SWS
 have O1:=SO1
 have O2:=SO2
 have O5:=SO5
 have O6:=SO6
 have O7:=SO7
 have O8:=SO8
 have O9:=SO9
 have O10:=SO10
 have T10:Hid (W8.heap.size=Y7.heap.size):=SS
 clear SB SZ SW SS SWS SO1 SO2 SO5 SO6 SO7 SO8 SO9 SO10
 go_upto_region 7 with fail
 have z:=Qa HB.out 11 _ rfl
 go_wp2_with fail
 refine (C11.out W8 HW.out).mono ?_
 rintro e w9 ⟨v11,rfl,hl,hb⟩
 have ho:OwnI ownRow (by decide) _ _ _ _ _:=OwnI.ofL hl
 obtain ⟨a11',n11',c11',rfl⟩:=ho.form
 have O11:=Lib.hid ho
 clear ho hl
 clear z
 have hW:=HWS.out
 have HB':=Lib.hid ((hb.block w.heap.size (by omega)).trans HB.out)
 have HZ':=Lib.hid ((hb.block (w.heap.size+1) (by omega)).trans HZ.out)
 have HW':=Lib.hid (HW.out.trans (hb.mono HW.out.size))
 have HWS':=Lib.hid (Nat.le_trans hW hb.size)
 have O1':=Lib.hid (O1.out.grew (Grew.called (lo:=w.heap.size+2) hb) (by first | exact L1.out | omega))
 have O2':=Lib.hid (O2.out.grew (Grew.called (lo:=w.heap.size+2) hb) (by first | exact L2.out | omega))
 have O5':=Lib.hid (O5.out.grew (Grew.called (lo:=w.heap.size+2) hb) (by first | exact L5.out | omega))
 have O6':=Lib.hid (O6.out.grew (Grew.called (lo:=w.heap.size+2) hb) (by first | exact L6.out | omega))
 have O7':=Lib.hid (O7.out.grew (Grew.called (lo:=w.heap.size+2) hb) (by first | exact L7.out | omega))
 have O8':=Lib.hid (O8.out.grew (Grew.called (lo:=w.heap.size+2) hb) (by first | exact L8.out | omega))
 have O9':=Lib.hid (O9.out.grew (Grew.called (lo:=w.heap.size+2) hb) (by first | exact L9.out | omega))
 have O10':=Lib.hid (O10.out.grew (Grew.called (lo:=w.heap.size+2) hb) (by first | exact L10.out | omega))
 clear HB HZ HW HWS O1 O2 O5 O6 O7 O8 O9 O10
 have HB:=HB'
 have HZ:=HZ'
 have HW:=HW'
 have HWS:=HWS'
 have O1:=O1'
 have O2:=O2'
 have O5:=O5'
 have O6:=O6'
 have O7:=O7'
 have O8:=O8'
 have O9:=O9'
 have O10:=O10'
 clear HB' HZ' HW' HWS' O1' O2' O5' O6' O7' O8' O9' O10'
 have L11:Hid (w.heap.size+2<=W8.heap.size):=Lib.hid hW
 have M11:Hid (W8.heap.size<=w9.heap.size):=Lib.hid hb.size
 clear hb hW
 have cc:=Qa HB.out 11 _ rfl
 have ff:w9.frozen? ⟨w.heap.size,11,none⟩=false:=frozen_of_row _ _ _ _ _ HB.out
 have hB':(w9.setCell ⟨w.heap.size,11,none⟩ (.slice a11' n11' c11')).heap[w.heap.size]? = some (.cells #[.int .i64 pc,.slice a1' n1' c1',.slice a2' n2' c2',.bool last,.bool redo,.slice a5' n5' c5',.slice a6' n6' c6',.slice a7' n7 c7',.slice a8' n8 c8',.slice a9' n9 c9',.slice a10' n10 c10',.slice a11' n11' c11',.int .i64 loss,.bool sat] 32 (0,0)):=by
  have:=heap_setCell_same w9 w.heap.size 11 _ _ (.slice a11' n11' c11') HB.out
  simpa only [List.setIfInBounds_toArray,List.set_cons_zero,List.set_cons_succ] using this
 have hZ':(w9.setCell ⟨w.heap.size,11,none⟩ (.slice a11' n11' c11')).heap[w.heap.size+1]? = some (.cells Zj 32 (0,0)):=(Below.heap_setCell _ _ _ _ (by show w.heap.size+1≠w.heap.size;omega)).trans HZ.out
 have hW':=HW.out.setCell (p:=⟨w.heap.size,11,none⟩) (Nat.le_refl _) (.slice a11' n11' c11')
 have hS':(w9.setCell ⟨w.heap.size,11,none⟩ (.slice a11' n11' c11')).heap.size=w9.heap.size:=by simp
 have SB:=Lib.hid hB'
 have SZ:=Lib.hid hZ'
 have SW:=Lib.hid hW'
 have SS:=Lib.hid hS'
 have SO1:=Lib.hid (O1.out.grew (Grew.stored (lo:=w.heap.size+2) (g:=w.heap.size) (by omega) w9 11 (.slice a11' n11' c11')) L1.out)
 have SO2:=Lib.hid (O2.out.grew (Grew.stored (lo:=w.heap.size+2) (g:=w.heap.size) (by omega) w9 11 (.slice a11' n11' c11')) L2.out)
 have SO5:=Lib.hid (O5.out.grew (Grew.stored (lo:=w.heap.size+2) (g:=w.heap.size) (by omega) w9 11 (.slice a11' n11' c11')) L5.out)
 have SO6:=Lib.hid (O6.out.grew (Grew.stored (lo:=w.heap.size+2) (g:=w.heap.size) (by omega) w9 11 (.slice a11' n11' c11')) L6.out)
 have SO7:=Lib.hid (O7.out.grew (Grew.stored (lo:=w.heap.size+2) (g:=w.heap.size) (by omega) w9 11 (.slice a11' n11' c11')) L7.out)
 have SO8:=Lib.hid (O8.out.grew (Grew.stored (lo:=w.heap.size+2) (g:=w.heap.size) (by omega) w9 11 (.slice a11' n11' c11')) L8.out)
 have SO9:=Lib.hid (O9.out.grew (Grew.stored (lo:=w.heap.size+2) (g:=w.heap.size) (by omega) w9 11 (.slice a11' n11' c11')) L9.out)
 have SO10:=Lib.hid (O10.out.grew (Grew.stored (lo:=w.heap.size+2) (g:=w.heap.size) (by omega) w9 11 (.slice a11' n11' c11')) L10.out)
 have SO11:=Lib.hid (O11.out.grew (Grew.stored (lo:=w.heap.size+2) (g:=w.heap.size) (by omega) w9 11 (.slice a11' n11' c11')) L11.out)
 clear hB' hZ' hW' hS'
 go_upto_region 8 with fail
 clear cc ff
 generalize w9.setCell ⟨w.heap.size,11,none⟩ (.slice a11' n11' c11')=W9 at SB SZ SW SS SO1 SO2 SO5 SO6 SO7 SO8 SO9 SO10 SO11 |-
 have SWS:Hid (w.heap.size+2<=W9.heap.size):=Lib.hid (by have:=SS.out;have:=HWS.out;omega)
 clear HB HZ HW HWS O1 O2 O5 O6 O7 O8 O9 O10 O11
 have HB:=SB
 have HZ:=SZ
 have HW:=SW
 have HWS:=SWS
 have O1:=SO1
 have O2:=SO2
 have O5:=SO5
 have O6:=SO6
 have O7:=SO7
 have O8:=SO8
 have O9:=SO9
 have O10:=SO10
 have O11:=SO11
 have T11:Hid (W9.heap.size=w9.heap.size):=SS
 clear SB SZ SW SS SWS SO1 SO2 SO5 SO6 SO7 SO8 SO9 SO10 SO11
 have z0:=Qa HB.out 0 _ rfl
 have z1:=Qa HB.out 1 _ rfl
 have z2:=Qa HB.out 2 _ rfl
 have z3:=Qa HB.out 3 _ rfl
 have z4:=Qa HB.out 4 _ rfl
 have z5:=Qa HB.out 5 _ rfl
 have z6:=Qa HB.out 6 _ rfl
 have z7:=Qa HB.out 7 _ rfl
 have z8:=Qa HB.out 8 _ rfl
 have z9:=Qa HB.out 9 _ rfl
 have z10:=Qa HB.out 10 _ rfl
 have z11:=Qa HB.out 11 _ rfl
 have z12:=Qa HB.out 12 _ rfl
 have z13:=Qa HB.out 13 _ rfl
 have q0:=Qa HZ.out 0 _ rfl
 have q1:=Qa HZ.out 1 _ rfl
 have q2:=Qa HZ.out 2 _ rfl
 have q3:=Qa HZ.out 3 _ rfl
 have q4:=Qa HZ.out 4 _ rfl
 have q5:=Qa HZ.out 5 _ rfl
 have q6:=Qa HZ.out 6 _ rfl
 have q7:=Qa HZ.out 7 _ rfl
 have q8:=Qa HZ.out 8 _ rfl
 have q9:=Qa HZ.out 9 _ rfl
 have q10:=Qa HZ.out 10 _ rfl
 have q11:=Qa HZ.out 11 _ rfl
 have q12:=Qa HZ.out 12 _ rfl
 have q13:=Qa HZ.out 13 _ rfl
 have f0:W9.frozen? ⟨w.heap.size+1,0,none⟩=false:=frozen_of_row _ _ _ _ _ HZ.out
 have f1:W9.frozen? ⟨w.heap.size+1,1,none⟩=false:=frozen_of_row _ _ _ _ _ HZ.out
 have f2:W9.frozen? ⟨w.heap.size+1,2,none⟩=false:=frozen_of_row _ _ _ _ _ HZ.out
 have f3:W9.frozen? ⟨w.heap.size+1,3,none⟩=false:=frozen_of_row _ _ _ _ _ HZ.out
 have f4:W9.frozen? ⟨w.heap.size+1,4,none⟩=false:=frozen_of_row _ _ _ _ _ HZ.out
 have f5:W9.frozen? ⟨w.heap.size+1,5,none⟩=false:=frozen_of_row _ _ _ _ _ HZ.out
 have f6:W9.frozen? ⟨w.heap.size+1,6,none⟩=false:=frozen_of_row _ _ _ _ _ HZ.out
 have f7:W9.frozen? ⟨w.heap.size+1,7,none⟩=false:=frozen_of_row _ _ _ _ _ HZ.out
 have f8:W9.frozen? ⟨w.heap.size+1,8,none⟩=false:=frozen_of_row _ _ _ _ _ HZ.out
 have f9:W9.frozen? ⟨w.heap.size+1,9,none⟩=false:=frozen_of_row _ _ _ _ _ HZ.out
 have f10:W9.frozen? ⟨w.heap.size+1,10,none⟩=false:=frozen_of_row _ _ _ _ _ HZ.out
 have f11:W9.frozen? ⟨w.heap.size+1,11,none⟩=false:=frozen_of_row _ _ _ _ _ HZ.out
 have f12:W9.frozen? ⟨w.heap.size+1,12,none⟩=false:=frozen_of_row _ _ _ _ _ HZ.out
 have f13:W9.frozen? ⟨w.heap.size+1,13,none⟩=false:=frozen_of_row _ _ _ _ _ HZ.out
 have hend:=Zn HZ.out (.int .i64 pc) (.slice a1' n1' c1') (.slice a2' n2' c2') (.bool last) (.bool redo) (.slice a5' n5' c5') (.slice a6' n6' c6') (.slice a7' n7 c7') (.slice a8' n8 c8') (.slice a9' n9 c9') (.slice a10' n10 c10') (.slice a11' n11' c11') (.int .i64 loss) (.bool sat)
 have hGr:Grew (w.heap.size+2) W9 ((((((((((((((W9.setCell ⟨w.heap.size+1,0,none⟩ (.int .i64 pc)).setCell ⟨w.heap.size+1,1,none⟩ (.slice a1' n1' c1')).setCell ⟨w.heap.size+1,2,none⟩ (.slice a2' n2' c2')).setCell ⟨w.heap.size+1,3,none⟩ (.bool last)).setCell ⟨w.heap.size+1,4,none⟩ (.bool redo)).setCell ⟨w.heap.size+1,5,none⟩ (.slice a5' n5' c5')).setCell ⟨w.heap.size+1,6,none⟩ (.slice a6' n6' c6')).setCell ⟨w.heap.size+1,7,none⟩ (.slice a7' n7 c7')).setCell ⟨w.heap.size+1,8,none⟩ (.slice a8' n8 c8')).setCell ⟨w.heap.size+1,9,none⟩ (.slice a9' n9 c9')).setCell ⟨w.heap.size+1,10,none⟩ (.slice a10' n10 c10')).setCell ⟨w.heap.size+1,11,none⟩ (.slice a11' n11' c11')).setCell ⟨w.heap.size+1,12,none⟩ (.int .i64 loss)).setCell ⟨w.heap.size+1,13,none⟩ (.bool sat)):=⟨Nat.le_of_eq hend.2.1.symm,fun b h1 _=>hend.2.2.1 b (by omega)⟩
 have hbw:Below w.heap.size w ((((((((((((((W9.setCell ⟨w.heap.size+1,0,none⟩ (.int .i64 pc)).setCell ⟨w.heap.size+1,1,none⟩ (.slice a1' n1' c1')).setCell ⟨w.heap.size+1,2,none⟩ (.slice a2' n2' c2')).setCell ⟨w.heap.size+1,3,none⟩ (.bool last)).setCell ⟨w.heap.size+1,4,none⟩ (.bool redo)).setCell ⟨w.heap.size+1,5,none⟩ (.slice a5' n5' c5')).setCell ⟨w.heap.size+1,6,none⟩ (.slice a6' n6' c6')).setCell ⟨w.heap.size+1,7,none⟩ (.slice a7' n7 c7')).setCell ⟨w.heap.size+1,8,none⟩ (.slice a8' n8 c8')).setCell ⟨w.heap.size+1,9,none⟩ (.slice a9' n9 c9')).setCell ⟨w.heap.size+1,10,none⟩ (.slice a10' n10 c10')).setCell ⟨w.heap.size+1,11,none⟩ (.slice a11' n11' c11')).setCell ⟨w.heap.size+1,12,none⟩ (.int .i64 loss)).setCell ⟨w.heap.size+1,13,none⟩ (.bool sat)):=hend.2.2.2 _ _ (by omega) HW.out
 have hke:=hend.1
 have hse:=hend.2.1
 have E1:=OwnI.at (O1.out.grew hGr L1.out) rfl rfl
 have m1:W0.heap.size<=w1.heap.size:=by have h1:=M1.out;have h2:=M1.out;omega
 have E2:=OwnI.at (O2.out.grew hGr L2.out) T1.out rfl
 have m2:w1.heap.size<=w2.heap.size:=by have h1:=M2.out;have h2:=T1.out;omega
 have E5:=ListL.at' (O5.out.grew hGr L5.out) T2.out rfl
 have m5:w2.heap.size<=w3.heap.size:=by have h1:=M5.out;have h2:=T2.out;omega
 have E6:=OwnI.at (O6.out.grew hGr L6.out) T5.out rfl
 have m6:w3.heap.size<=w4.heap.size:=by have h1:=M6.out;have h2:=T5.out;omega
 have E7:=OwnI.at (O7.out.grew hGr L7.out) T6.out rfl
 have m7:w4.heap.size<=w5.heap.size:=by have h1:=M7.out;have h2:=T6.out;omega
 have E8:=OwnI.at (O8.out.grew hGr L8.out) rfl rfl
 have m8:w5.heap.size<=w6.heap.size:=by have h1:=M8.out;have h2:=M8.out;omega
 have E9:=OwnI.at (O9.out.grew hGr L9.out) (T8.out.trans T7.out) rfl
 have m9:w6.heap.size<=w7.heap.size:=by have h1:=M9.out;have h2:=(T8.out.trans T7.out);omega
 have E10:=OwnI.at (O10.out.grew hGr L10.out) rfl rfl
 have m10:w7.heap.size<=w8.heap.size:=by have h1:=M10.out;have h2:=M10.out;omega
 have E11:=OwnI.at (O11.out.grew hGr L11.out) (T10.out.trans T9.out) rfl
 have m11:w8.heap.size<=w9.heap.size:=by have h1:=M11.out;have h2:=(T10.out.trans T9.out);omega
 have hl0:=L1.out
 have hK:=Lib.hid hke
 have hB':=Lib.hid hbw
 have hT:w9.heap.size<=((((((((((((((W9.setCell ⟨w.heap.size+1,0,none⟩ (.int .i64 pc)).setCell ⟨w.heap.size+1,1,none⟩ (.slice a1' n1' c1')).setCell ⟨w.heap.size+1,2,none⟩ (.slice a2' n2' c2')).setCell ⟨w.heap.size+1,3,none⟩ (.bool last)).setCell ⟨w.heap.size+1,4,none⟩ (.bool redo)).setCell ⟨w.heap.size+1,5,none⟩ (.slice a5' n5' c5')).setCell ⟨w.heap.size+1,6,none⟩ (.slice a6' n6' c6')).setCell ⟨w.heap.size+1,7,none⟩ (.slice a7' n7 c7')).setCell ⟨w.heap.size+1,8,none⟩ (.slice a8' n8 c8')).setCell ⟨w.heap.size+1,9,none⟩ (.slice a9' n9 c9')).setCell ⟨w.heap.size+1,10,none⟩ (.slice a10' n10 c10')).setCell ⟨w.heap.size+1,11,none⟩ (.slice a11' n11' c11')).setCell ⟨w.heap.size+1,12,none⟩ (.int .i64 loss)).setCell ⟨w.heap.size+1,13,none⟩ (.bool sat)).heap.size:=by rw [hse];have:=T11.out;omega
 have HT:=Lib.hid hT
 have HSE:=Lib.hid hse
 have F1:=Lib.hid E1
 have F2:=Lib.hid E2
 have F5:=Lib.hid E5
 have F6:=Lib.hid E6
 have F7:=Lib.hid E7
 have F8:=Lib.hid E8
 have F9:=Lib.hid E9
 have F10:=Lib.hid E10
 have F11:=Lib.hid E11
 clear hend hGr hbw hke hse hT E1 E2 E5 E6 E7 E8 E9 E10 E11
 go_wp2_with fail
 refine bodyPost_ret (results_cell_row rfl _ _ (w.heap.size+1) 32 #[.int .i64 pc,.slice a1' n1' c1',.slice a2' n2' c2',.bool last,.bool redo,.slice a5' n5' c5',.slice a6' n6' c6',.slice a7' n7 c7',.slice a8' n8 c8',.slice a9' n9 c9',.slice a10' n10 c10',.slice a11' n11' c11',.int .i64 loss,.bool sat] (0,0) _ rfl hK.out Tryz.underlying32 rfl (by kernel_rfl)) rfl ?_
 refine ⟨.slice a1' n1' c1',.slice a2' n2' c2',.slice a5' n5' c5',.slice a6' n6' c6',.slice a7' n7 c7',.slice a8' n8 c8',.slice a9' n9 c9',.slice a10' n10 c10',.slice a11' n11' c11',fun i=>[W0.heap.size,w1.heap.size,w2.heap.size,w3.heap.size,w4.heap.size,w5.heap.size,w6.heap.size,w7.heap.size,w8.heap.size,w9.heap.size].getD i 0,rfl,hB'.out,by show w.heap.size<=W0.heap.size;omega,HT.out,?_,F1.out,F2.out,F5.out,F6.out,F7.out,F8.out,F9.out,F10.out,F11.out⟩
 intro j hj
 match j,hj with
 | 0,_=>exact m1
 | 1,_=>exact m2
 | 2,_=>exact m5
 | 3,_=>exact m6
 | 4,_=>exact m7
 | 5,_=>exact m8
 | 6,_=>exact m9
 | 7,_=>exact m10
 | 8,_=>exact m11
 | j+9,hj=>omega
end Go.Proofs.YtcooobnaocbdjaaGreatDoor
