import Derived.Test.YtcooobnaocbdjaaGreatDoorJoin26
import Derived.Test.YtcooobnaocbdjaaGreatDoorJoin27
import Derived.Test.YtcooobnaocbdjaaGreatDoorJoin28
import Derived.Test.YtcooobnaocbdjaaGreatDoorJoin22
set_option maxRecDepth 100000
set_option maxHeartbeats 6400000
set_option linter.unusedSimpArgs false
set_option linter.unusedVariables false
namespace Go.Proofs.YtcooobnaocbdjaaGreatDoor
open Go.RowKit Go.Sort
def LL {α:Type} (S:Shape α) (lo hi:Nat) (wx:World) (v:Value) (xs:List α):Prop:=hi<=wx.heap.size /\ ∃ a n c,v = .slice a n c/\n<=c/\c<=9223372036854775807/\Qb S (From lo hi) wx a n xs
def Grew (lo:Nat) (wx wy:World):Prop:=wx.heap.size<=wy.heap.size /\ ∀ b,lo<=b->b<wx.heap.size->wy.heap[b]? = wx.heap[b]?
theorem Grew.refl (lo:Nat) (wx:World):Grew lo wx wx:=⟨Nat.le_refl _,fun _ _ _=>rfl⟩
theorem Grew.trans {lo:Nat} {wx wy wz:World} (h:Grew lo wx wy) (h':Grew lo wy wz):Grew lo wx wz:=⟨Nat.le_trans h.1 h'.1,fun b h1 h2=>(h'.2 b h1 (Nat.lt_of_lt_of_le h2 h.1)).trans (h.2 b h1 h2)⟩
theorem Grew.called {lo:Nat} {wx wy:World} (h:Below wx.heap.size wx wy):Grew lo wx wy:=⟨h.size,fun b _ h2=>h.block b h2⟩
theorem Grew.stored {lo g:Nat} (hg:g<lo) (wx:World) (i:Nat) (u:Value):Grew lo wx (wx.setCell ⟨g,i,none⟩ u):=⟨by simp,fun b h1 _=>heap_setCell_other _ _ _ _ (by show b≠g;omega)⟩
theorem Grew.both {lo g:Nat} (hg:g<lo) {wx wy:World} (h:Below wx.heap.size wx wy) (i:Nat) (u:Value):Grew lo wx (wy.setCell ⟨g,i,none⟩ u):=(Grew.called h).trans (Grew.stored hg _ _ _)
theorem LL.grew {α:Type} {S:Shape α} {lo0 lo hi:Nat} {wx wy:World} {v:Value} {xs:List α} (h:LL S lo hi wx v xs) (hg:Grew lo0 wx wy) (hl:lo0<=lo):LL S lo hi wy v xs:=by
 obtain ⟨h0,a,n,c,e,h1,h2,h3⟩:=h
 exact ⟨Nat.le_trans h0 hg.1,a,n,c,e,h1,h2,h3.keep fun b hb=>hg.2 b (Nat.le_trans hl hb.1) (Nat.lt_of_lt_of_le hb.2 h0)⟩
theorem LL.wide {α:Type} {S:Shape α} {lo hi lo' hi':Nat} {wx:World} {v:Value} {xs:List α} (h:LL S lo hi wx v xs) (hl:lo'<=lo) (hh:hi<=hi') (ht:hi'<=wx.heap.size):LL S lo' hi' wx v xs:=by
 obtain ⟨h0,a,n,c,e,h1,h2,h3⟩:=h
 exact ⟨ht,a,n,c,e,h1,h2,h3.sub fun b hb=>⟨Nat.le_trans hl hb.1,Nat.lt_of_lt_of_le hb.2 hh⟩⟩
theorem LL.ofL {α:Type} {S:Owned α} {T:TypeId} {lo hi:Nat} {w:World} {v:Value} {xs:List α} (h:ListL S T lo hi w v xs) (hS:0<S.size):LL S.toShape lo hi w v xs:=by
 obtain ⟨a,c,e,h1,h2,h3⟩:=h.list hS
 exact ⟨h.top,a,xs.length,c,e,h1,h2,h3.listAt (fun b o f=>f) hS⟩
theorem LL.ofRow {base:Nat} {w:World} {v:Value} {xs:List Int} (h:Row base w v xs):LL Shape.int base w.heap.size w v xs:=by
 obtain ⟨a,n,c,e,h1,h2,h3⟩:=h.own
 exact ⟨Nat.le_refl _,a,n,c,by simpa using e,h1,h2,h3.listAt (fun b o f=>f) (by decide)⟩
theorem LL.ofTwo {T:TypeId} {base:Nat} {w:World} {v:Value} {xs:List dTwo} (h:TwoR T base w v xs):LL Qlv base w.heap.size w v xs:=by
 obtain ⟨a,n,c,e,h1,h2,h3⟩:=TwoR.listAt h
 exact ⟨Nat.le_refl _,a,n,c,by simpa using e,h1,h2,h3⟩
theorem ListL.grew {α:Type} {S:Owned α} {T:TypeId} {lo0 lo hi:Nat} {wx wy:World} {v:Value} {xs:List α} (h:ListL S T lo hi wx v xs) (hg:Grew lo0 wx wy) (hl:lo0<=lo):ListL S T lo hi wy v xs:=
 h.keepB (fun b h1 h2=>hg.2 b (Nat.le_trans hl h1) (Nat.lt_of_lt_of_le h2 h.top)) (Nat.le_trans h.top hg.1)
abbrev Qji (pc:Int) (v1 v2:Value) (last redo:Bool) (v5 v6 v7 v8 v9 v10 v11:Value) (loss:Int) (sat:Bool):Array Value:=#[.int .i64 pc,v1,v2,.bool last,.bool redo,v5,v6,v7,v8,v9,v10,v11,.int .i64 loss,.bool sat]
theorem Qec (w:World) (es:List Value) (s:Qq) (h:Qd.reads (Qf w.heap.size) w es s) (hsm:Js s) (hlen:(Zc s).length<=1048576) :
  Calls Tryz.prog 73 #[.agg es.toArray] w fun e w' => ∃ v1 v2 v5 v6 v7 v8 v9 v10 v11 m1 m2,e = .returned (.agg (Qji (pcS s) v1 v2 (Qbt s) (Qb3 s) v5 v6 v7 v8 v9 v10 v11 (sumS s).2.1 (sumS s).2.2))/\Below w.heap.size w w'/\w.heap.size<=m1/\m1<=m2/\m2<=w'.heap.size /\
   LL Z1 w.heap.size m1 w' v1 (Qfg s)/\LL shOp w.heap.size m1 w' v2 (opsS s)/\ListL Qe 46 m1 m2 w' v5 (Zc s)/\LL Qi m2 w'.heap.size w' v6 (Qj7 s) /\
   LL Shape.int m2 w'.heap.size w' v7 (xS s)/\LL Shape.int m2 w'.heap.size w' v8 (yS s)/\LL Shape.int m2 w'.heap.size w' v9 (gS s)/\LL Shape.int m2 w'.heap.size w' v10 (dS s)/\LL Qi m2 w'.heap.size w' v11 (sumS s).1:=by
 obtain ⟨i0,hi,hz0,hz1,hz2⟩:=info_parts Qj1
 obtain ⟨j0,hj,hy0,hy1,hy2⟩:=info_parts Jk
 obtain ⟨b1,b2,b5,b6,b7,b8,b9,b10,b11⟩:=hsm
 obtain ⟨a1,n1,c1,a2,n2,c2,a5,n5,c5,a6,n6,c6,a7,n7,c7,a8,n8,c8,a9,n9,c9,a10,n10,c10,a11,n11,c11,rfl,⟨p1,q1,l1⟩,⟨p2,q2,l2⟩,⟨p5,q5,l5⟩,⟨p6,q6,l6⟩,⟨p7,q7,l7⟩,⟨p8,q8,l8⟩,⟨p9,q9,l9⟩,⟨p10,q10,l10⟩,⟨p11,q11,l11⟩⟩:=Qn.1 h
 obtain ⟨pc,plan,ops,last,redo,stash,full,xs,ys,gs,ds,rows,loss,sat⟩:=s
 replace b1:(Shape.list Z1).bulk plan<=1048576:=b1
 replace b2:(Shape.list shOp).bulk ops<=1048576:=b2
 replace b5:Qab stash:=b5
 replace b6:(Shape.list Qi).bulk full<=1048576:=b6
 replace b11:(Shape.list Qi).bulk rows<=1048576:=b11
 replace l1:Qb Z1 (Qf w.heap.size) w a1 n1 plan:=l1
 replace l2:Qb shOp (Qf w.heap.size) w a2 n2 ops:=l2
 replace l5:Qb Qc (Qf w.heap.size) w a5 n5 stash:=l5
 replace l6:Qb Qi (Qf w.heap.size) w a6 n6 full:=l6
 replace l11:Qb Qi (Qf w.heap.size) w a11 n11 rows:=l11
 replace hlen:stash.length<=1048576:=hlen
 replace l7:Qb Shape.int (Qf w.heap.size) w a7 n7 xs:=l7
 replace b7:xs.length<=1048576:=by rw [<- Ql];exact b7
 have IX7:=Lib.hid fun (wx:World) (hx:Below w.heap.size w wx)=>(l7.ints (by have:=l7.1;omega)).below hx (Nat.le_refl _)
 replace l8:Qb Shape.int (Qf w.heap.size) w a8 n8 ys:=l8
 replace b8:ys.length<=1048576:=by rw [<- Ql];exact b8
 have IX8:=Lib.hid fun (wx:World) (hx:Below w.heap.size w wx)=>(l8.ints (by have:=l8.1;omega)).below hx (Nat.le_refl _)
 replace l9:Qb Shape.int (Qf w.heap.size) w a9 n9 gs:=l9
 replace b9:gs.length<=1048576:=by rw [<- Ql];exact b9
 have IX9:=Lib.hid fun (wx:World) (hx:Below w.heap.size w wx)=>(l9.ints (by have:=l9.1;omega)).below hx (Nat.le_refl _)
 replace l10:Qb Shape.int (Qf w.heap.size) w a10 n10 ds:=l10
 replace b10:ds.length<=1048576:=by rw [<- Ql];exact b10
 have IX10:=Lib.hid fun (wx:World) (hx:Below w.heap.size w wx)=>(l10.ints (by have:=l10.1;omega)).below hx (Nat.le_refl _)
 have hti:=l1.twoIn (Nat.le_refl _) b1
 rw [Qh shOp l2] at b2
 rw [Qh Qi l6] at b6
 rw [Qh Qi l11] at b11
 have TI:=Lib.hid fun (wx:World) (hx:Below w.heap.size w wx)=>hti.below hx (Nat.le_refl _)
 have HO:=Lib.hid fun (wx:World) (hx:Below w.heap.size w wx)=>Qh7 wx a2 n2 c2 ops ((l2.below hx (Nat.le_refl _)).le hx.size) (by omega) (by omega)
 have HR6:=Lib.hid fun (wx:World) (hx:Below w.heap.size w wx)=>Qbn wx a6 n6 c6 full ((l6.below hx (Nat.le_refl _)).le hx.size) (by omega) (by omega)
 have HR11:=Lib.hid fun (wx:World) (hx:Below w.heap.size w wx)=>Qbn wx a11 n11 c11 rows ((l11.below hx (Nat.le_refl _)).le hx.size) (by omega) (by omega)
 have L5:=Lib.hid l5
 have LEN5:=Lib.hid hlen
 have BK5:=Lib.hid b5
 clear h l1 l2 l5 l6 l7 l8 l9 l10 l11 b1 b2 b5 b6 b7 b8 b9 b10 b11 hti hlen
 have hbx0:=Boxes.start w #[.int .i64 pc,.slice a1 n1 c1,.slice a2 n2 c2,.bool last,.bool redo,.slice a5 n5 c5,.slice a6 n6 c6,.slice a7 n7 c7,.slice a8 n8 c8,.slice a9 n9 c9,.slice a10 n10 c10,.slice a11 n11 c11,.int .i64 loss,.bool sat] Zj #[.int .i64 pc,.slice a1 n1 c1,.slice a2 n2 c2,.bool last,.bool redo,.slice a5 n5 c5,.slice a6 n6 c6,.slice a7 n7 c7,.slice a8 n8 c8,.slice a9 n9 c9,.slice a10 n10 c10,.slice a11 n11 c11,.int .i64 loss,.bool sat] 32 32
 have BX0:=Lib.hid hbx0
 clear hbx0
 go_enter Tryz.func73,Tryz.ntmps73
 go_upto_region 2 with fail
 generalize (((w.alloc (.cells #[.int .i64 pc,.slice a1 n1 c1,.slice a2 n2 c2,.bool last,.bool redo,.slice a5 n5 c5,.slice a6 n6 c6,.slice a7 n7 c7,.slice a8 n8 c8,.slice a9 n9 c9,.slice a10 n10 c10,.slice a11 n11 c11,.int .i64 loss,.bool sat] 32 (0,0))).alloc (.cells Zj 32 (0,0))).alloc (.cells #[.int .i64 pc,.slice a1 n1 c1,.slice a2 n2 c2,.bool last,.bool redo,.slice a5 n5 c5,.slice a6 n6 c6,.slice a7 n7 c7,.slice a8 n8 c8,.slice a9 n9 c9,.slice a10 n10 c10,.slice a11 n11 c11,.int .i64 loss,.bool sat] 32 (0,0)))=W0 at BX0 |-
 have z:=Qa BX0.out.a 2 _ rfl
 have hs:=BX0.out.size
 go_wp2_with fail
 refine (HO.out W0 BX0.out.below).mono ?_
 rintro e w1 ⟨v1,rfl,hl,hb⟩
 obtain ⟨u2,d2,rfl,-,-⟩:=hl.form
 have hbx:=BX0.out.call hb
 have cc:=Qa hbx.o 2 _ rfl
 have ff:w1.frozen? ⟨w.heap.size+1+1,2,none⟩=false:=frozen_of_row _ _ _ _ _ hbx.o
 have hll:=(LL.ofL hl (by decide)).grew (Grew.stored (lo:=w.heap.size+3) (g:=w.heap.size+1+1) (by omega) w1 2 (.slice u2 ops.length d2)) (by omega)
 have hg:=Grew.both (lo:=w.heap.size+3) (g:=w.heap.size+1+1) (by omega) hb 2 (.slice u2 ops.length d2)
 have hbs:Boxes w (w1.setCell ⟨w.heap.size+1+1,2,none⟩ (.slice u2 ops.length d2)) #[.int .i64 pc,.slice a1 n1 c1,.slice a2 n2 c2,.bool last,.bool redo,.slice a5 n5 c5,.slice a6 n6 c6,.slice a7 n7 c7,.slice a8 n8 c8,.slice a9 n9 c9,.slice a10 n10 c10,.slice a11 n11 c11,.int .i64 loss,.bool sat] Zj #[.int .i64 pc,.slice a1 n1 c1,.slice u2 ops.length d2,.bool last,.bool redo,.slice a5 n5 c5,.slice a6 n6 c6,.slice a7 n7 c7,.slice a8 n8 c8,.slice a9 n9 c9,.slice a10 n10 c10,.slice a11 n11 c11,.int .i64 loss,.bool sat] 32 32:=by
  have:=hbx.store 2 (.slice u2 ops.length d2)
  simpa only [List.setIfInBounds_toArray,List.set_cons_zero,List.set_cons_succ] using this
 have hsz:w1.heap.size=(w1.setCell ⟨w.heap.size+1+1,2,none⟩ (.slice u2 ops.length d2)).heap.size:=by simp
 rw [hsz] at hll
 have hp:W0.heap.size<=(w1.setCell ⟨w.heap.size+1+1,2,none⟩ (.slice u2 ops.length d2)).heap.size:=hg.1
 have BX1:=Lib.hid hbs
 have G1:=Lib.hid hg
 have LL2:=Lib.hid hll
 have S1:=Lib.hid hp
 clear z hs hl hb hbx hll hg hbs hsz hp
 go_upto_region 3 with fail
 clear cc ff
 generalize w1.setCell ⟨w.heap.size+1+1,2,none⟩ (.slice u2 ops.length d2)=W1 at BX1 G1 LL2 S1 |-
 clear w1
 have z:=Qa BX1.out.a 1 _ rfl
 have hs:=BX1.out.size
 have ha1:Below W1.heap.size W1 (W1.alloc (.cells #[] 144 (0,0))):=(Below.refl _ _).alloc (Nat.le_refl _) _
 have hre:TwoR 144 W1.heap.size (W1.alloc (.cells #[] 144 (0,0))) (.slice (some ⟨W1.heap.size,0,none⟩) 0 0) []:=
  ⟨by simp [Zq],.inr ⟨W1.heap.size,0,#[],rfl,Nat.le_refl _,heap_alloc_new W1 _,Nat.le_refl _,Nat.zero_le _,by simp,by simp [Zq]⟩⟩
 have zz:=(ha1.cell (p:=⟨w.heap.size,1,none⟩) (by show w.heap.size<_;omega)).trans z
 have HA1:=Lib.hid ha1
 have HRE:=Lib.hid hre
 have HIN:=Lib.hid (TI.out _ (BX1.out.below.trans (ha1.mono (by omega))))
 have HS:=Lib.hid hs
 clear ha1 hre z hs
 go_upto_region 4 with (at_builtin;go_loud (refine Qw (by rfl) fun K hK => ?_;refine Ju rfl (Qcl (ops:=#[]) _ (by rfl) _ _ (by rfl) i0 (.agg #[.int .i64 0,.int .i64 0]) Tryz.underlying24 hi hz0 hz1 hz2 rfl W1.heap.size _ [] (by rfl) HRE.out a1 n1 c1 w.heap.size plan (by rfl) HIN.out (by simp) HA1.out.size ?_);intro u1 k1 d1 w2 hr hg;rw [List.nil_append] at hr;have hb2:Below W1.heap.size W1 w2:=HA1.out.trans ((Below.refl W1.heap.size _).grown hg HA1.out.size fun q hq=>by cases hq;exact Nat.le_refl _);have hbx:=BX1.out.call hb2;have cc:=Qa hbx.o 1 _ rfl;have ff:w2.frozen? ⟨w.heap.size+1+1,1,none⟩=false:=frozen_of_row _ _ _ _ _ hbx.o;have HR2:=Lib.hid hr;have HB2:=Lib.hid hb2;have HX2:=Lib.hid hbx;clear hr hg hb2 hbx;refine hK _ _ ?_;clear hK K))
 clear zz cc ff
 have hs:=HS.out
 have hbs:Boxes w (w2.setCell ⟨w.heap.size+1+1,1,none⟩ (.slice u1 k1 d1)) #[.int .i64 pc,.slice a1 n1 c1,.slice a2 n2 c2,.bool last,.bool redo,.slice a5 n5 c5,.slice a6 n6 c6,.slice a7 n7 c7,.slice a8 n8 c8,.slice a9 n9 c9,.slice a10 n10 c10,.slice a11 n11 c11,.int .i64 loss,.bool sat] Zj #[.int .i64 pc,.slice u1 k1 d1,.slice u2 ops.length d2,.bool last,.bool redo,.slice a5 n5 c5,.slice a6 n6 c6,.slice a7 n7 c7,.slice a8 n8 c8,.slice a9 n9 c9,.slice a10 n10 c10,.slice a11 n11 c11,.int .i64 loss,.bool sat] 32 32:=by
  have:=HX2.out.store 1 (.slice u1 k1 d1)
  simpa only [List.setIfInBounds_toArray,List.set_cons_zero,List.set_cons_succ] using this
 have hll:=(LL.ofTwo HR2.out).grew (Grew.stored (lo:=w.heap.size+3) (g:=w.heap.size+1+1) (by omega) w2 1 (.slice u1 k1 d1)) (by omega)
 have hg:=Grew.both (lo:=w.heap.size+3) (g:=w.heap.size+1+1) (by omega) HB2.out 1 (.slice u1 k1 d1)
 have hsz:w2.heap.size=(w2.setCell ⟨w.heap.size+1+1,1,none⟩ (.slice u1 k1 d1)).heap.size:=by simp
 rw [hsz] at hll
 have BX2:=Lib.hid hbs
 have G2:=Lib.hid hg
 have LL1:=Lib.hid hll
 clear hs hbs hll hg hsz HR2 HB2 HX2 HA1 HRE HIN HS
 generalize w2.setCell ⟨w.heap.size+1+1,1,none⟩ (.slice u1 k1 d1)=W2 at BX2 G2 LL1 |-
 clear w2
 have hs:=BX2.out.size
 have ha:Below W2.heap.size W2 (W2.alloc (.cells #[] 46 (0,0))):=(Below.refl _ _).alloc (Nat.le_refl _) _
 have he:ListL Qe 46 W2.heap.size (W2.alloc (.cells #[] 46 (0,0))).heap.size (W2.alloc (.cells #[] 46 (0,0))) (.slice (some ⟨W2.heap.size,0,none⟩) 0 0) []:=by
  have:=ListL.empty Qe 46 (lo:=W2.heap.size) W2 (Nat.le_refl _)
  exact this.wide (Nat.le_refl _) (by simp) (Nat.le_refl _)
 have hbx:=BX2.out.call ha
 have cc:=Qa hbx.o 5 _ rfl
 have ff:(W2.alloc (.cells #[] 46 (0,0))).frozen? ⟨w.heap.size+1+1,5,none⟩=false:=frozen_of_row _ _ _ _ _ hbx.o
 have hbs:Boxes w ((W2.alloc (.cells #[] 46 (0,0))).setCell ⟨w.heap.size+1+1,5,none⟩ (.slice (some ⟨W2.heap.size,0,none⟩) 0 0)) #[.int .i64 pc,.slice a1 n1 c1,.slice a2 n2 c2,.bool last,.bool redo,.slice a5 n5 c5,.slice a6 n6 c6,.slice a7 n7 c7,.slice a8 n8 c8,.slice a9 n9 c9,.slice a10 n10 c10,.slice a11 n11 c11,.int .i64 loss,.bool sat] Zj #[.int .i64 pc,.slice u1 k1 d1,.slice u2 ops.length d2,.bool last,.bool redo,.slice (some ⟨W2.heap.size,0,none⟩) 0 0,.slice a6 n6 c6,.slice a7 n7 c7,.slice a8 n8 c8,.slice a9 n9 c9,.slice a10 n10 c10,.slice a11 n11 c11,.int .i64 loss,.bool sat] 32 32:=by
  have:=hbx.store 5 (.slice (some ⟨W2.heap.size,0,none⟩) 0 0)
  simpa only [List.setIfInBounds_toArray,List.set_cons_zero,List.set_cons_succ] using this
 have hg:=Grew.both (lo:=w.heap.size+3) (g:=w.heap.size+1+1) (by omega) ha 5 (.slice (some ⟨W2.heap.size,0,none⟩) 0 0)
 have hll:=he.grew (Grew.stored (lo:=w.heap.size+3) (g:=w.heap.size+1+1) (by omega) _ 5 (.slice (some ⟨W2.heap.size,0,none⟩) 0 0)) (by omega)
 have hsz:(W2.alloc (.cells #[] 46 (0,0))).heap.size=((W2.alloc (.cells #[] 46 (0,0))).setCell ⟨w.heap.size+1+1,5,none⟩ (.slice (some ⟨W2.heap.size,0,none⟩) 0 0)).heap.size:=by simp
 rw [hsz] at hll
 have BX3:=Lib.hid hbs
 have G3:=Lib.hid hg
 have LS:=Lib.hid hll
 have SZ2:=Lib.hid hs
 clear hs ha he hbx hbs hg hll hsz
 go_wp2_with fail
 clear cc ff
 generalize (W2.alloc (.cells #[] 46 (0,0))).setCell ⟨w.heap.size+1+1,5,none⟩ (.slice (some ⟨W2.heap.size,0,none⟩) 0 0)=W3 at BX3 G3 LS |-
 go_loopw [4] (fun i wr => ∃ (k:Nat) (ad:Option Addr) (cd:Nat),k<=n5/\i = .int .i64 k/\Boxes w wr #[.int .i64 pc,.slice a1 n1 c1,.slice a2 n2 c2,.bool last,.bool redo,.slice a5 n5 c5,.slice a6 n6 c6,.slice a7 n7 c7,.slice a8 n8 c8,.slice a9 n9 c9,.slice a10 n10 c10,.slice a11 n11 c11,.int .i64 loss,.bool sat] Zj #[.int .i64 pc,.slice u1 k1 d1,.slice u2 ops.length d2,.bool last,.bool redo,.slice ad k cd,.slice a6 n6 c6,.slice a7 n7 c7,.slice a8 n8 c8,.slice a9 n9 c9,.slice a10 n10 c10,.slice a11 n11 c11,.int .i64 loss,.bool sat] 32 32/\ListL Qe 46 W2.heap.size wr.heap.size wr (.slice ad k cd) (stash.take k)/\Grew (w.heap.size+3) W2 wr) (fun i _=>n5-(intOf i).toNat)
 case atStart=>exact ⟨0,_,_,Nat.zero_le _,rfl,BX3.out,LS.out,G3.out⟩
 case round =>
  obtain ⟨k,ad,cd,hk,rfl,hbx,hl,hg⟩:=hrel
  have hsz:=hbx.size
  have hb:=hbx.below
  have hgs:=hg.1
  by_cases hlt:k<n5
  ·have z5:=Qa hbx.a 5 _ rfl
   have x5:=Qa hbx.o 5 _ rfl
   obtain ⟨b,o,x,ax,nx,cx,hx,rfl,hbB,hc0,hc1,-,-,hlx⟩:=Qcq L5.out k hlt
   have hbx':=BK5.out.2 x (List.mem_of_getElem? hx)
   rw [Zi,Qh Qi hlx] at hbx'
   have htk:stash.take (k+1)=stash.take k ++ [x]:=by rw [List.take_add_one,hx];rfl
   have htl:(stash.take k).length=k:=by rw [List.length_take,L5.out.1];omega
   obtain ⟨M,hM⟩ : ∃ M,x.1=M:=⟨_,rfl⟩
   rw [hM] at hc0
   have hxe:x=(M,x.2):=by rw [<- hM]
   have d0:=(hb.cell (p:=⟨b,o+k*2,none⟩) hbB).trans hc0
   have d1:=(hb.cell (p:=⟨b,o+k*2+1,none⟩) hbB).trans hc1
   have hbB':b<w.heap.size:=hbB
   have HC:=Lib.hid (Qbn wr.drew ax nx cx x.2 ((hlx.below hb (Nat.le_refl _)).le hb.size) (by omega) (by omega))
   have LATE:=Lib.hid fun (wx:World) (hx:Below wr.heap.size wr wx)=>(show (wx.cell? ⟨w.heap.size,5,none⟩=some (.slice (some ⟨b,o,none⟩) n5 c5)/\wx.cell? ⟨w.heap.size+1+1,5,none⟩=some (.slice ad k cd)/\wx.cell? ⟨b,o+k*2,none⟩=some (.int .i64 M)/\wx.cell? ⟨b,o+k*2+1,none⟩=some (.slice ax nx cx)) from
    ⟨(hx.cell (p:=⟨w.heap.size,5,none⟩) (by show w.heap.size<_;omega)).trans z5,(hx.cell (p:=⟨w.heap.size+1+1,5,none⟩) (by show w.heap.size+1+1<_;omega)).trans x5,(hx.cell (p:=⟨b,o+k*2,none⟩) (by show b<_;omega)).trans d0,(hx.cell (p:=⟨b,o+k*2+1,none⟩) (by show b<_;omega)).trans d1⟩)
   have HXE:=Lib.hid hxe
   have HTK:=Lib.hid htk
   have HTL:=Lib.hid htl
   have HLK:=Lib.hid hl
   have HBX:=Lib.hid hbx
   have HGR:=Lib.hid hg
   have hS0:=LATE.out wr.drew ((Below.refl _ _).drew)
   clear hx hlx hbB hc0 hc1 hM hxe htk htl hl hbx hg hbx' hb d0 d1
   go_upto_region 8 with fail
   clear z5 x5
   refine Qks (S:=fun w'=>w'.cell? ⟨w.heap.size,5,none⟩=some (.slice (some ⟨b,o,none⟩) n5 c5)/\w'.cell? ⟨w.heap.size+1+1,5,none⟩=some (.slice ad k cd)/\w'.cell? ⟨b,o+k*2,none⟩=some (.int .i64 M)/\w'.cell? ⟨b,o+k*2+1,none⟩=some (.slice ax nx cx)) (by kernel_rfl) ?_
   refine Zw (i:=0) (v:= ?_) rfl (by kernel_rfl) (by kernel_rfl) (by kernel_rfl) (fun _ _ _ h=>h) (Or.inl ⟨by rfl,?_⟩) hS0 ?_
   rotate_left
   ·(intro wS hS;obtain ⟨sA,sB,sC,sD⟩:=hS;go_simp;try with_reducible rfl)
   simp only [Act.put,List.setIfInBounds_toArray,List.set_cons_zero,List.set_cons_succ]
   refine Zw (i:=1) (v:= ?_) rfl (by kernel_rfl) (by kernel_rfl) (by kernel_rfl) (fun _ _ _ h=>h) (Or.inl ⟨by rfl,?_⟩) hS0 ?_
   rotate_left
   ·(intro wS hS;obtain ⟨sA,sB,sC,sD⟩:=hS;go_simp;try with_reducible rfl)
   simp only [Act.put,List.setIfInBounds_toArray,List.set_cons_zero,List.set_cons_succ]
   refine Zw (i:=2) (v:= ?_) rfl (by kernel_rfl) (by kernel_rfl) (by kernel_rfl) (fun _ _ _ h=>h) (Or.inl ⟨by rfl,?_⟩) hS0 ?_
   rotate_left
   ·(intro wS hS;obtain ⟨sA,sB,sC,sD⟩:=hS;go_simp;try with_reducible rfl)
   simp only [Act.put,List.setIfInBounds_toArray,List.set_cons_zero,List.set_cons_succ]
   refine Zw (i:=3) (v:= ?_) rfl (by kernel_rfl) (by kernel_rfl) (by kernel_rfl) (fun _ _ _ h=>h) (Or.inl ⟨by rfl,?_⟩) hS0 ?_
   rotate_left
   ·(intro wS hS;obtain ⟨sA,sB,sC,sD⟩:=hS;go_simp;try with_reducible rfl)
   simp only [Act.put,List.setIfInBounds_toArray,List.set_cons_zero,List.set_cons_succ]
   refine Zw (i:=4) (v:= ?_) rfl (by kernel_rfl) (by kernel_rfl) (by kernel_rfl) (fun _ _ _ h=>h) (Or.inl ⟨by rfl,?_⟩) hS0 ?_
   rotate_left
   ·(intro wS hS;obtain ⟨sA,sB,sC,sD⟩:=hS;go_simp;try with_reducible rfl)
   simp only [Act.put,List.setIfInBounds_toArray,List.set_cons_zero,List.set_cons_succ]
   refine Zw (i:=5) (v:= ?_) rfl (by kernel_rfl) (by kernel_rfl) (by kernel_rfl) (fun _ _ _ h=>h) (Or.inl ⟨by rfl,?_⟩) hS0 ?_
   rotate_left
   ·(intro wS hS;obtain ⟨sA,sB,sC,sD⟩:=hS;go_simp;try with_reducible rfl)
   simp only [Act.put,List.setIfInBounds_toArray,List.set_cons_zero,List.set_cons_succ]
   refine Zw (i:=6) (v:= ?_) rfl (by kernel_rfl) (by kernel_rfl) (by kernel_rfl) (fun _ _ _ h=>h) (Or.inl ⟨by rfl,?_⟩) hS0 ?_
   rotate_left
   ·(intro wS hS;obtain ⟨sA,sB,sC,sD⟩:=hS;go_simp;try with_reducible rfl)
   simp only [Act.put,List.setIfInBounds_toArray,List.set_cons_zero,List.set_cons_succ]
   refine Zw (i:=7) (v:= ?_) rfl (by kernel_rfl) (by kernel_rfl) (by kernel_rfl) (fun _ _ _ h=>h) (Or.inl ⟨by rfl,?_⟩) hS0 ?_
   rotate_left
   ·(intro wS hS;obtain ⟨sA,sB,sC,sD⟩:=hS;go_simp;try with_reducible rfl)
   simp only [Act.put,List.setIfInBounds_toArray,List.set_cons_zero,List.set_cons_succ]
   refine Zw (i:=8) (v:= ?_) rfl (by kernel_rfl) (by kernel_rfl) (by kernel_rfl) (fun _ _ _ h=>h) (Or.inl ⟨by rfl,?_⟩) hS0 ?_
   rotate_left
   ·(intro wS hS;obtain ⟨sA,sB,sC,sD⟩:=hS;go_simp;try with_reducible rfl)
   simp only [Act.put,List.setIfInBounds_toArray,List.set_cons_zero,List.set_cons_succ]
   refine Zw (i:=9) (v:= ?_) rfl (by kernel_rfl) (by kernel_rfl) (by kernel_rfl) (fun _ _ _ h=>h) (Or.inl ⟨by rfl,?_⟩) hS0 ?_
   rotate_left
   ·(intro wS hS;obtain ⟨sA,sB,sC,sD⟩:=hS;go_simp;try with_reducible rfl)
   simp only [Act.put,List.setIfInBounds_toArray,List.set_cons_zero,List.set_cons_succ]
   refine Zw (i:=10) (v:= ?_) rfl (by kernel_rfl) (by kernel_rfl) (by kernel_rfl) (fun _ _ _ h=>h) (Or.inl ⟨by rfl,?_⟩) hS0 ?_
   rotate_left
   ·(intro wS hS;obtain ⟨sA,sB,sC,sD⟩:=hS;go_simp;try with_reducible rfl)
   simp only [Act.put,List.setIfInBounds_toArray,List.set_cons_zero,List.set_cons_succ]
   refine Zw (i:=11) (v:= ?_) rfl (by kernel_rfl) (by kernel_rfl) (by kernel_rfl) (fun _ _ _ h=>h) (Or.inl ⟨by rfl,?_⟩) hS0 ?_
   rotate_left
   ·(intro wS hS;obtain ⟨sA,sB,sC,sD⟩:=hS;go_simp;try with_reducible rfl)
   simp only [Act.put,List.setIfInBounds_toArray,List.set_cons_zero,List.set_cons_succ]
   refine Zw (i:=12) (v:= ?_) rfl (by kernel_rfl) (by kernel_rfl) (by kernel_rfl) (fun _ _ _ h=>h) (Or.inl ⟨by rfl,?_⟩) hS0 ?_
   rotate_left
   ·(intro wS hS;obtain ⟨sA,sB,sC,sD⟩:=hS;go_simp;try with_reducible rfl)
   simp only [Act.put,List.setIfInBounds_toArray,List.set_cons_zero,List.set_cons_succ]
   refine Zw (i:=13) (v:= ?_) rfl (by kernel_rfl) (by kernel_rfl) (by kernel_rfl) (fun _ _ _ h=>h) (Or.inl ⟨by rfl,?_⟩) hS0 ?_
   rotate_left
   ·(intro wS hS;obtain ⟨sA,sB,sC,sD⟩:=hS;go_simp;try with_reducible rfl)
   simp only [Act.put,List.setIfInBounds_toArray,List.set_cons_zero,List.set_cons_succ]
   refine Qdy (i:=14) (by kernel_rfl) rfl (by rfl) (fun K hK => ?_)
   go_simp
   go_at_call 167
   refine HC.out.mono ?_
   rintro e w1 ⟨v1,rfl,hl1,hb1⟩
   obtain ⟨av,cv,rfl,-,-⟩:=hl1.form
   have hb1':Below wr.heap.size wr w1:=((Below.refl wr.heap.size wr).drew).trans hb1
   have HL1:=Lib.hid hl1
   have HB1:=Lib.hid hb1'
   clear hl1 hb1 hb1'
   refine hK _ _ (.inr (LATE.out _ HB1.out)) ?_
   try simp only [Act.put,List.setIfInBounds_toArray,List.set_cons_zero,List.set_cons_succ]
   clear hK
   refine Zw (i:=15) (v:= ?_) rfl (by kernel_rfl) (by kernel_rfl) (by kernel_rfl) (fun _ _ _ h=>h) (Or.inl ⟨by rfl,?_⟩) (LATE.out _ HB1.out) ?_
   rotate_left
   ·(intro wS hS;obtain ⟨sA,sB,sC,sD⟩:=hS;go_simp;try with_reducible rfl)
   simp only [Act.put,List.setIfInBounds_toArray,List.set_cons_zero,List.set_cons_succ]
   have HB2:=Lib.hid (HB1.out.alloc HB1.out.size (.cells #[.int .i64 M,.slice av x.2.length cv] 46 (0,0)))
   refine Qdy (i:=16) (by kernel_rfl) rfl (by rfl) (fun K hK => ?_)
   go_simp
   refine hK _ _ (.inr (LATE.out _ HB2.out)) ?_
   try simp only [Act.put,List.setIfInBounds_toArray,List.set_cons_zero,List.set_cons_succ]
   clear hK
   have hs1:=HB1.out.size
   obtain ⟨av',cv',e1,o1,o2,o3⟩:=HL1.out.list (by decide)
   obtain ⟨rfl,rfl⟩:av=av'/\cv=cv':=by simpa using e1
   have hown:Qe.owns (Zb wr.heap.size w1.heap.size) w1 [.int .i64 M,.slice av x.2.length cv] x:=by
    rw [HXE.out]
    exact Zx.2 ⟨av,x.2.length,cv,rfl,o1,o2,o3⟩
   have HOWN:=Lib.hid hown
   clear hown e1 o1 o2 o3
   refine Qdy (i:=17) (by kernel_rfl) rfl (by rfl) (fun K hK => ?_)
   refine Ju rfl (Zr (ops:=#[]) w1 (S:=Qe) (T:=46) (Ts:=26) (by rfl) _ _ (by rfl) j0 (.agg #[.int .i64 0,.slice none 0 0]) 32 Tryz.underlying26 hj hy0 hy1 hy2 rfl (by decide) (by decide) W2.heap.size wr.heap.size hgs _ (stash.take k) x [.int .i64 M,.slice av x.2.length cv] (Zb wr.heap.size w1.heap.size) (by rfl) (HLK.out.below HB1.out (Nat.le_refl _)) HOWN.out (fun b o f=>f) (fun u hu=>by simp only [List.mem_cons,List.not_mem_nil,or_false] at hu;rcases hu with rfl | rfl <;> rfl) (by rfl) (by rw [HTL.out];have:=LEN5.out;have:=L5.out.1;omega) ?_)
   intro ar nr cr w4 hl4 hb4 _ _
   have hs2:=SZ2.out
   have hb5:Below W2.heap.size wr w4:=(HB1.out.mono hgs).trans hb4
   have hbx4:=HBX.out.far (hb5.mono (by omega))
   have hlen4:nr=k+1:=by
    obtain ⟨ar',cr',e4,-,-⟩:=hl4.form
    have e5:nr=(stash.take k ++ [x]).length:=(Value.slice.inj e4).2.1
    rw [e5,List.length_append,HTL.out]
    rfl
   subst hlen4
   have cc:=Qa hbx4.o 5 _ rfl
   have ff:w4.frozen? ⟨w.heap.size+1+1,5,none⟩=false:=frozen_of_row _ _ _ _ _ hbx4.o
   have hS4:w4.cell? ⟨w.heap.size,5,none⟩=some (.slice (some ⟨b,o,none⟩) n5 c5)/\w4.cell? ⟨w.heap.size+1+1,5,none⟩=some (.slice ad k cd)/\w4.cell? ⟨b,o+k*2,none⟩=some (.int .i64 M)/\w4.cell? ⟨b,o+k*2+1,none⟩=some (.slice ax nx cx):=
    ⟨Qa hbx4.a 5 _ rfl,cc,(hb5.cell (p:=⟨b,o+k*2,none⟩) (by show b<_;omega)).trans ((LATE.out _ (Below.refl _ _)).2.2.1),(hb5.cell (p:=⟨b,o+k*2+1,none⟩) (by show b<_;omega)).trans ((LATE.out _ (Below.refl _ _)).2.2.2)⟩
   have hll:=hl4.grew (Grew.stored (lo:=w.heap.size+3) (g:=w.heap.size+1+1) (by omega) w4 5 (.slice ar (k+1) cr)) (by omega)
   have hsz4:w4.heap.size=(w4.setCell ⟨w.heap.size+1+1,5,none⟩ (.slice ar (k+1) cr)).heap.size:=by simp
   rw [hsz4] at hll
   have hgr:Grew (w.heap.size+3) W2 (w4.setCell ⟨w.heap.size+1+1,5,none⟩ (.slice ar (k+1) cr)):=by
    refine ⟨by rw [<- hsz4];exact Nat.le_trans hgs hb5.size,fun b' h1 h2 => ?_⟩
    exact (heap_setCell_other _ _ _ _ (by show b'≠w.heap.size+1+1;omega)).trans ((hb5.block b' h2).trans (HGR.out.2 b' h1 h2))
   have hbs:Boxes w (w4.setCell ⟨w.heap.size+1+1,5,none⟩ (.slice ar (k+1) cr)) #[.int .i64 pc,.slice a1 n1 c1,.slice a2 n2 c2,.bool last,.bool redo,.slice (some ⟨b,o,none⟩) n5 c5,.slice a6 n6 c6,.slice a7 n7 c7,.slice a8 n8 c8,.slice a9 n9 c9,.slice a10 n10 c10,.slice a11 n11 c11,.int .i64 loss,.bool sat] Zj #[.int .i64 pc,.slice u1 k1 d1,.slice u2 ops.length d2,.bool last,.bool redo,.slice ar (k+1) cr,.slice a6 n6 c6,.slice a7 n7 c7,.slice a8 n8 c8,.slice a9 n9 c9,.slice a10 n10 c10,.slice a11 n11 c11,.int .i64 loss,.bool sat] 32 32:=by
    have:=hbx4.store 5 (.slice ar (k+1) cr)
    simpa only [List.setIfInBounds_toArray,List.set_cons_zero,List.set_cons_succ] using this
   have BX4:=Lib.hid hbs
   have GR4:=Lib.hid hgr
   have LL4:=Lib.hid hll
   clear hs2 hb5 hbx4 hll hsz4 hgr hbs hl4 hb4 hs1
   refine hK _ _ (.inr hS4) ?_
   try simp only [Act.put,List.setIfInBounds_toArray,List.set_cons_zero,List.set_cons_succ]
   clear hK
   refine Zw (i:=18) (v:= ?_) rfl (by kernel_rfl) (by kernel_rfl) (by kernel_rfl) (fun _ _ _ h=>h) (Or.inl ⟨by rfl,?_⟩) hS4 ?_
   rotate_left
   ·(intro wS hS;obtain ⟨sA,sB,sC,sD⟩:=hS;go_simp;try with_reducible rfl)
   simp only [Act.put,List.setIfInBounds_toArray,List.set_cons_zero,List.set_cons_succ]
   refine Qdy (i:=19) (by kernel_rfl) rfl (by rfl) (fun K hK => ?_)
   go_simp
   refine hK _ _ (.inl (Qrb (by kernel_rfl))) ?_
   clear hK
   refine Qom (by kernel_rfl) ?_ _
   generalize w4.setCell ⟨w.heap.size+1+1,5,none⟩ (.slice ar (k+1) cr)=w5 at BX4 GR4 LL4 |-
   clear hS4 cc ff hS0
   go_wp2_with fail
   go_roundw
   case rel =>
    refine ⟨k+1,ar,cr,by omega,by go_num,BX4.out,?_,GR4.out⟩
    rw [HTK.out]
    exact LL4.out
   case measure=>simp [intOf];omega
  ·obtain rfl:n5=k:=by omega
   rw [List.take_of_length_le (Nat.le_of_eq L5.out.1)] at hl
   have z5:=Qa hbx.a 5 _ rfl
   have LS4:=Lib.hid hl
   have BX4:=Lib.hid hbx
   have GR4:=Lib.hid hg
   have HGS:=Lib.hid hgs
   have SB4:=Lib.hid hsz
   clear hl hbx hg hb hsz hgs hk
   go_upto_region 9 with fail
   clear z5
   have z:=Qa BX4.out.a 6 _ rfl
   have hs:=BX4.out.size
   go_wp2_with fail
   refine (HR6.out wr BX4.out.below).mono ?_
   rintro e w1 ⟨v1,rfl,hl,hb⟩
   obtain ⟨u6,d6,rfl,-,-⟩:=hl.form
   have hbx:=BX4.out.call hb
   have cc:=Qa hbx.o 6 _ rfl
   have ff:w1.frozen? ⟨w.heap.size+1+1,6,none⟩=false:=frozen_of_row _ _ _ _ _ hbx.o
   have hll:=(LL.ofL hl (by decide)).grew (Grew.stored (lo:=w.heap.size+3) (g:=w.heap.size+1+1) (by omega) w1 6 (.slice u6 full.length d6)) (by omega)
   have hg:=Grew.both (lo:=w.heap.size+3) (g:=w.heap.size+1+1) (by omega) hb 6 (.slice u6 full.length d6)
   have hbs:Boxes w (w1.setCell ⟨w.heap.size+1+1,6,none⟩ (.slice u6 full.length d6)) #[.int .i64 pc,.slice a1 n1 c1,.slice a2 n2 c2,.bool last,.bool redo,.slice a5 n5 c5,.slice a6 n6 c6,.slice a7 n7 c7,.slice a8 n8 c8,.slice a9 n9 c9,.slice a10 n10 c10,.slice a11 n11 c11,.int .i64 loss,.bool sat] Zj #[.int .i64 pc,.slice u1 k1 d1,.slice u2 ops.length d2,.bool last,.bool redo,.slice ad n5 cd,.slice u6 full.length d6,.slice a7 n7 c7,.slice a8 n8 c8,.slice a9 n9 c9,.slice a10 n10 c10,.slice a11 n11 c11,.int .i64 loss,.bool sat] 32 32:=by
    have:=hbx.store 6 (.slice u6 full.length d6)
    simpa only [List.setIfInBounds_toArray,List.set_cons_zero,List.set_cons_succ] using this
   have hsz:w1.heap.size=(w1.setCell ⟨w.heap.size+1+1,6,none⟩ (.slice u6 full.length d6)).heap.size:=by simp
   rw [hsz] at hll
   have hp:wr.heap.size<=(w1.setCell ⟨w.heap.size+1+1,6,none⟩ (.slice u6 full.length d6)).heap.size:=hg.1
   have BX5:=Lib.hid hbs
   have G5:=Lib.hid hg
   have LL6:=Lib.hid hll
   have S5:=Lib.hid hp
   clear z hs hl hb hbx hll hg hbs hsz hp
   go_upto_region 10 with fail
   clear cc ff
   generalize w1.setCell ⟨w.heap.size+1+1,6,none⟩ (.slice u6 full.length d6)=W5 at BX5 G5 LL6 S5 |-
   clear w1
   have z:=Qa BX5.out.a 7 _ rfl
   have hs:=BX5.out.size
   have ha1:Below W5.heap.size W5 (W5.alloc (.cells #[] 3 (0,0))):=(Below.refl _ _).alloc (Nat.le_refl _) _
   have hre:Row W5.heap.size (W5.alloc (.cells #[] 3 (0,0))) (.slice (some ⟨W5.heap.size,0,none⟩) 0 0) []:=
    ⟨by simp [Qp],.inr ⟨W5.heap.size,0,#[],rfl,Nat.le_refl _,heap_alloc_new W5 _,Nat.le_refl _,Nat.zero_le _,by simp,by simp [Qp]⟩⟩
   have zz:=(ha1.cell (p:=⟨w.heap.size,7,none⟩) (by show w.heap.size<_;omega)).trans z
   have HA1:=Lib.hid ha1
   have HRE:=Lib.hid hre
   have HIN:=Lib.hid (IX7.out _ (BX5.out.below.trans (ha1.mono (by omega))))
   have HS:=Lib.hid hs
   clear ha1 hre z hs
   go_upto_region 11 with (at_builtin;go_loud (refine Qw (by rfl) fun K hK => ?_;refine Ju rfl (Zv (ops:=#[]) _ rfl _ _ (by rfl) W5.heap.size _ [] (by rfl) HRE.out a7 n7 c7 w.heap.size xs (by rfl) HIN.out (by simp) HA1.out.size ?_);intro u7 k7 d7 w2 hr hg;rw [List.nil_append] at hr;have hb2:Below W5.heap.size W5 w2:=HA1.out.trans ((Below.refl W5.heap.size _).grown hg HA1.out.size fun q hq=>by cases hq;exact Nat.le_refl _);have hbx:=BX5.out.call hb2;have cc:=Qa hbx.o 7 _ rfl;have ff:w2.frozen? ⟨w.heap.size+1+1,7,none⟩=false:=frozen_of_row _ _ _ _ _ hbx.o;have HR2:=Lib.hid hr;have HB2:=Lib.hid hb2;have HX2:=Lib.hid hbx;clear hr hg hb2 hbx;refine hK _ _ ?_;clear hK K))
   clear zz cc ff
   have hs:=HS.out
   have hbs:Boxes w (w2.setCell ⟨w.heap.size+1+1,7,none⟩ (.slice u7 k7 d7)) #[.int .i64 pc,.slice a1 n1 c1,.slice a2 n2 c2,.bool last,.bool redo,.slice a5 n5 c5,.slice a6 n6 c6,.slice a7 n7 c7,.slice a8 n8 c8,.slice a9 n9 c9,.slice a10 n10 c10,.slice a11 n11 c11,.int .i64 loss,.bool sat] Zj #[.int .i64 pc,.slice u1 k1 d1,.slice u2 ops.length d2,.bool last,.bool redo,.slice ad n5 cd,.slice u6 full.length d6,.slice u7 k7 d7,.slice a8 n8 c8,.slice a9 n9 c9,.slice a10 n10 c10,.slice a11 n11 c11,.int .i64 loss,.bool sat] 32 32:=by
    have:=HX2.out.store 7 (.slice u7 k7 d7)
    simpa only [List.setIfInBounds_toArray,List.set_cons_zero,List.set_cons_succ] using this
   have hll:=(LL.ofRow HR2.out).grew (Grew.stored (lo:=w.heap.size+3) (g:=w.heap.size+1+1) (by omega) w2 7 (.slice u7 k7 d7)) (by omega)
   have hg:=Grew.both (lo:=w.heap.size+3) (g:=w.heap.size+1+1) (by omega) HB2.out 7 (.slice u7 k7 d7)
   have hsz:w2.heap.size=(w2.setCell ⟨w.heap.size+1+1,7,none⟩ (.slice u7 k7 d7)).heap.size:=by simp
   rw [hsz] at hll
   have BX6:=Lib.hid hbs
   have G6:=Lib.hid hg
   have LL7:=Lib.hid hll
   clear hs hbs hll hg hsz HR2 HB2 HX2 HA1 HRE HIN HS
   generalize w2.setCell ⟨w.heap.size+1+1,7,none⟩ (.slice u7 k7 d7)=W6 at BX6 G6 LL7 |-
   clear w2
   have z:=Qa BX6.out.a 8 _ rfl
   have hs:=BX6.out.size
   have ha1:Below W6.heap.size W6 (W6.alloc (.cells #[] 3 (0,0))):=(Below.refl _ _).alloc (Nat.le_refl _) _
   have hre:Row W6.heap.size (W6.alloc (.cells #[] 3 (0,0))) (.slice (some ⟨W6.heap.size,0,none⟩) 0 0) []:=
    ⟨by simp [Qp],.inr ⟨W6.heap.size,0,#[],rfl,Nat.le_refl _,heap_alloc_new W6 _,Nat.le_refl _,Nat.zero_le _,by simp,by simp [Qp]⟩⟩
   have zz:=(ha1.cell (p:=⟨w.heap.size,8,none⟩) (by show w.heap.size<_;omega)).trans z
   have HA1:=Lib.hid ha1
   have HRE:=Lib.hid hre
   have HIN:=Lib.hid (IX8.out _ (BX6.out.below.trans (ha1.mono (by omega))))
   have HS:=Lib.hid hs
   clear ha1 hre z hs
   go_upto_region 12 with (at_builtin;go_loud (refine Qw (by rfl) fun K hK => ?_;refine Ju rfl (Zv (ops:=#[]) _ rfl _ _ (by rfl) W6.heap.size _ [] (by rfl) HRE.out a8 n8 c8 w.heap.size ys (by rfl) HIN.out (by simp) HA1.out.size ?_);intro u8 k8 d8 w2 hr hg;rw [List.nil_append] at hr;have hb2:Below W6.heap.size W6 w2:=HA1.out.trans ((Below.refl W6.heap.size _).grown hg HA1.out.size fun q hq=>by cases hq;exact Nat.le_refl _);have hbx:=BX6.out.call hb2;have cc:=Qa hbx.o 8 _ rfl;have ff:w2.frozen? ⟨w.heap.size+1+1,8,none⟩=false:=frozen_of_row _ _ _ _ _ hbx.o;have HR2:=Lib.hid hr;have HB2:=Lib.hid hb2;have HX2:=Lib.hid hbx;clear hr hg hb2 hbx;refine hK _ _ ?_;clear hK K))
   clear zz cc ff
   have hs:=HS.out
   have hbs:Boxes w (w2.setCell ⟨w.heap.size+1+1,8,none⟩ (.slice u8 k8 d8)) #[.int .i64 pc,.slice a1 n1 c1,.slice a2 n2 c2,.bool last,.bool redo,.slice a5 n5 c5,.slice a6 n6 c6,.slice a7 n7 c7,.slice a8 n8 c8,.slice a9 n9 c9,.slice a10 n10 c10,.slice a11 n11 c11,.int .i64 loss,.bool sat] Zj #[.int .i64 pc,.slice u1 k1 d1,.slice u2 ops.length d2,.bool last,.bool redo,.slice ad n5 cd,.slice u6 full.length d6,.slice u7 k7 d7,.slice u8 k8 d8,.slice a9 n9 c9,.slice a10 n10 c10,.slice a11 n11 c11,.int .i64 loss,.bool sat] 32 32:=by
    have:=HX2.out.store 8 (.slice u8 k8 d8)
    simpa only [List.setIfInBounds_toArray,List.set_cons_zero,List.set_cons_succ] using this
   have hll:=(LL.ofRow HR2.out).grew (Grew.stored (lo:=w.heap.size+3) (g:=w.heap.size+1+1) (by omega) w2 8 (.slice u8 k8 d8)) (by omega)
   have hg:=Grew.both (lo:=w.heap.size+3) (g:=w.heap.size+1+1) (by omega) HB2.out 8 (.slice u8 k8 d8)
   have hsz:w2.heap.size=(w2.setCell ⟨w.heap.size+1+1,8,none⟩ (.slice u8 k8 d8)).heap.size:=by simp
   rw [hsz] at hll
   have BX7:=Lib.hid hbs
   have G7:=Lib.hid hg
   have LL8:=Lib.hid hll
   clear hs hbs hll hg hsz HR2 HB2 HX2 HA1 HRE HIN HS
   generalize w2.setCell ⟨w.heap.size+1+1,8,none⟩ (.slice u8 k8 d8)=W7 at BX7 G7 LL8 |-
   clear w2
   have z:=Qa BX7.out.a 9 _ rfl
   have hs:=BX7.out.size
   have ha1:Below W7.heap.size W7 (W7.alloc (.cells #[] 3 (0,0))):=(Below.refl _ _).alloc (Nat.le_refl _) _
   have hre:Row W7.heap.size (W7.alloc (.cells #[] 3 (0,0))) (.slice (some ⟨W7.heap.size,0,none⟩) 0 0) []:=
    ⟨by simp [Qp],.inr ⟨W7.heap.size,0,#[],rfl,Nat.le_refl _,heap_alloc_new W7 _,Nat.le_refl _,Nat.zero_le _,by simp,by simp [Qp]⟩⟩
   have zz:=(ha1.cell (p:=⟨w.heap.size,9,none⟩) (by show w.heap.size<_;omega)).trans z
   have HA1:=Lib.hid ha1
   have HRE:=Lib.hid hre
   have HIN:=Lib.hid (IX9.out _ (BX7.out.below.trans (ha1.mono (by omega))))
   have HS:=Lib.hid hs
   clear ha1 hre z hs
   go_upto_region 13 with (at_builtin;go_loud (refine Qw (by rfl) fun K hK => ?_;refine Ju rfl (Zv (ops:=#[]) _ rfl _ _ (by rfl) W7.heap.size _ [] (by rfl) HRE.out a9 n9 c9 w.heap.size gs (by rfl) HIN.out (by simp) HA1.out.size ?_);intro u9 k9 d9 w2 hr hg;rw [List.nil_append] at hr;have hb2:Below W7.heap.size W7 w2:=HA1.out.trans ((Below.refl W7.heap.size _).grown hg HA1.out.size fun q hq=>by cases hq;exact Nat.le_refl _);have hbx:=BX7.out.call hb2;have cc:=Qa hbx.o 9 _ rfl;have ff:w2.frozen? ⟨w.heap.size+1+1,9,none⟩=false:=frozen_of_row _ _ _ _ _ hbx.o;have HR2:=Lib.hid hr;have HB2:=Lib.hid hb2;have HX2:=Lib.hid hbx;clear hr hg hb2 hbx;refine hK _ _ ?_;clear hK K))
   clear zz cc ff
   have hs:=HS.out
   have hbs:Boxes w (w2.setCell ⟨w.heap.size+1+1,9,none⟩ (.slice u9 k9 d9)) #[.int .i64 pc,.slice a1 n1 c1,.slice a2 n2 c2,.bool last,.bool redo,.slice a5 n5 c5,.slice a6 n6 c6,.slice a7 n7 c7,.slice a8 n8 c8,.slice a9 n9 c9,.slice a10 n10 c10,.slice a11 n11 c11,.int .i64 loss,.bool sat] Zj #[.int .i64 pc,.slice u1 k1 d1,.slice u2 ops.length d2,.bool last,.bool redo,.slice ad n5 cd,.slice u6 full.length d6,.slice u7 k7 d7,.slice u8 k8 d8,.slice u9 k9 d9,.slice a10 n10 c10,.slice a11 n11 c11,.int .i64 loss,.bool sat] 32 32:=by
    have:=HX2.out.store 9 (.slice u9 k9 d9)
    simpa only [List.setIfInBounds_toArray,List.set_cons_zero,List.set_cons_succ] using this
   have hll:=(LL.ofRow HR2.out).grew (Grew.stored (lo:=w.heap.size+3) (g:=w.heap.size+1+1) (by omega) w2 9 (.slice u9 k9 d9)) (by omega)
   have hg:=Grew.both (lo:=w.heap.size+3) (g:=w.heap.size+1+1) (by omega) HB2.out 9 (.slice u9 k9 d9)
   have hsz:w2.heap.size=(w2.setCell ⟨w.heap.size+1+1,9,none⟩ (.slice u9 k9 d9)).heap.size:=by simp
   rw [hsz] at hll
   have BX8:=Lib.hid hbs
   have G8:=Lib.hid hg
   have LL9:=Lib.hid hll
   clear hs hbs hll hg hsz HR2 HB2 HX2 HA1 HRE HIN HS
   generalize w2.setCell ⟨w.heap.size+1+1,9,none⟩ (.slice u9 k9 d9)=W8 at BX8 G8 LL9 |-
   clear w2
   have z:=Qa BX8.out.a 10 _ rfl
   have hs:=BX8.out.size
   have ha1:Below W8.heap.size W8 (W8.alloc (.cells #[] 3 (0,0))):=(Below.refl _ _).alloc (Nat.le_refl _) _
   have hre:Row W8.heap.size (W8.alloc (.cells #[] 3 (0,0))) (.slice (some ⟨W8.heap.size,0,none⟩) 0 0) []:=
    ⟨by simp [Qp],.inr ⟨W8.heap.size,0,#[],rfl,Nat.le_refl _,heap_alloc_new W8 _,Nat.le_refl _,Nat.zero_le _,by simp,by simp [Qp]⟩⟩
   have zz:=(ha1.cell (p:=⟨w.heap.size,10,none⟩) (by show w.heap.size<_;omega)).trans z
   have HA1:=Lib.hid ha1
   have HRE:=Lib.hid hre
   have HIN:=Lib.hid (IX10.out _ (BX8.out.below.trans (ha1.mono (by omega))))
   have HS:=Lib.hid hs
   clear ha1 hre z hs
   go_upto_region 14 with (at_builtin;go_loud (refine Qw (by rfl) fun K hK => ?_;refine Ju rfl (Zv (ops:=#[]) _ rfl _ _ (by rfl) W8.heap.size _ [] (by rfl) HRE.out a10 n10 c10 w.heap.size ds (by rfl) HIN.out (by simp) HA1.out.size ?_);intro u10 k10 d10 w2 hr hg;rw [List.nil_append] at hr;have hb2:Below W8.heap.size W8 w2:=HA1.out.trans ((Below.refl W8.heap.size _).grown hg HA1.out.size fun q hq=>by cases hq;exact Nat.le_refl _);have hbx:=BX8.out.call hb2;have cc:=Qa hbx.o 10 _ rfl;have ff:w2.frozen? ⟨w.heap.size+1+1,10,none⟩=false:=frozen_of_row _ _ _ _ _ hbx.o;have HR2:=Lib.hid hr;have HB2:=Lib.hid hb2;have HX2:=Lib.hid hbx;clear hr hg hb2 hbx;refine hK _ _ ?_;clear hK K))
   clear zz cc ff
   have hs:=HS.out
   have hbs:Boxes w (w2.setCell ⟨w.heap.size+1+1,10,none⟩ (.slice u10 k10 d10)) #[.int .i64 pc,.slice a1 n1 c1,.slice a2 n2 c2,.bool last,.bool redo,.slice a5 n5 c5,.slice a6 n6 c6,.slice a7 n7 c7,.slice a8 n8 c8,.slice a9 n9 c9,.slice a10 n10 c10,.slice a11 n11 c11,.int .i64 loss,.bool sat] Zj #[.int .i64 pc,.slice u1 k1 d1,.slice u2 ops.length d2,.bool last,.bool redo,.slice ad n5 cd,.slice u6 full.length d6,.slice u7 k7 d7,.slice u8 k8 d8,.slice u9 k9 d9,.slice u10 k10 d10,.slice a11 n11 c11,.int .i64 loss,.bool sat] 32 32:=by
    have:=HX2.out.store 10 (.slice u10 k10 d10)
    simpa only [List.setIfInBounds_toArray,List.set_cons_zero,List.set_cons_succ] using this
   have hll:=(LL.ofRow HR2.out).grew (Grew.stored (lo:=w.heap.size+3) (g:=w.heap.size+1+1) (by omega) w2 10 (.slice u10 k10 d10)) (by omega)
   have hg:=Grew.both (lo:=w.heap.size+3) (g:=w.heap.size+1+1) (by omega) HB2.out 10 (.slice u10 k10 d10)
   have hsz:w2.heap.size=(w2.setCell ⟨w.heap.size+1+1,10,none⟩ (.slice u10 k10 d10)).heap.size:=by simp
   rw [hsz] at hll
   have BX9:=Lib.hid hbs
   have G9:=Lib.hid hg
   have LL10:=Lib.hid hll
   clear hs hbs hll hg hsz HR2 HB2 HX2 HA1 HRE HIN HS
   generalize w2.setCell ⟨w.heap.size+1+1,10,none⟩ (.slice u10 k10 d10)=W9 at BX9 G9 LL10 |-
   clear w2
   have z:=Qa BX9.out.a 11 _ rfl
   have hs:=BX9.out.size
   go_wp2_with fail
   refine (HR11.out W9 BX9.out.below).mono ?_
   rintro e w1 ⟨v1,rfl,hl,hb⟩
   obtain ⟨u11,d11,rfl,-,-⟩:=hl.form
   have hbx:=BX9.out.call hb
   have cc:=Qa hbx.o 11 _ rfl
   have ff:w1.frozen? ⟨w.heap.size+1+1,11,none⟩=false:=frozen_of_row _ _ _ _ _ hbx.o
   have hll:=(LL.ofL hl (by decide)).grew (Grew.stored (lo:=w.heap.size+3) (g:=w.heap.size+1+1) (by omega) w1 11 (.slice u11 rows.length d11)) (by omega)
   have hg:=Grew.both (lo:=w.heap.size+3) (g:=w.heap.size+1+1) (by omega) hb 11 (.slice u11 rows.length d11)
   have hbs:Boxes w (w1.setCell ⟨w.heap.size+1+1,11,none⟩ (.slice u11 rows.length d11)) #[.int .i64 pc,.slice a1 n1 c1,.slice a2 n2 c2,.bool last,.bool redo,.slice a5 n5 c5,.slice a6 n6 c6,.slice a7 n7 c7,.slice a8 n8 c8,.slice a9 n9 c9,.slice a10 n10 c10,.slice a11 n11 c11,.int .i64 loss,.bool sat] Zj #[.int .i64 pc,.slice u1 k1 d1,.slice u2 ops.length d2,.bool last,.bool redo,.slice ad n5 cd,.slice u6 full.length d6,.slice u7 k7 d7,.slice u8 k8 d8,.slice u9 k9 d9,.slice u10 k10 d10,.slice u11 rows.length d11,.int .i64 loss,.bool sat] 32 32:=by
    have:=hbx.store 11 (.slice u11 rows.length d11)
    simpa only [List.setIfInBounds_toArray,List.set_cons_zero,List.set_cons_succ] using this
   have hsz:w1.heap.size=(w1.setCell ⟨w.heap.size+1+1,11,none⟩ (.slice u11 rows.length d11)).heap.size:=by simp
   rw [hsz] at hll
   have hp:W9.heap.size<=(w1.setCell ⟨w.heap.size+1+1,11,none⟩ (.slice u11 rows.length d11)).heap.size:=hg.1
   have BX10:=Lib.hid hbs
   have G10:=Lib.hid hg
   have LL11:=Lib.hid hll
   have S10:=Lib.hid hp
   clear z hs hl hb hbx hll hg hbs hsz hp
   go_upto_region 15 with fail
   clear cc ff
   generalize w1.setCell ⟨w.heap.size+1+1,11,none⟩ (.slice u11 rows.length d11)=W10 at BX10 G10 LL11 S10 |-
   clear w1
   have z0:=Qa BX10.out.o 0 _ rfl
   have cc0:=Qa BX10.out.z 0 _ rfl
   have f0:W10.frozen? ⟨w.heap.size+1,0,none⟩=false:=frozen_of_row _ _ _ _ _ BX10.out.z
   have z1:=Qa BX10.out.o 1 _ rfl
   have cc1:=Qa BX10.out.z 1 _ rfl
   have f1:W10.frozen? ⟨w.heap.size+1,1,none⟩=false:=frozen_of_row _ _ _ _ _ BX10.out.z
   have z2:=Qa BX10.out.o 2 _ rfl
   have cc2:=Qa BX10.out.z 2 _ rfl
   have f2:W10.frozen? ⟨w.heap.size+1,2,none⟩=false:=frozen_of_row _ _ _ _ _ BX10.out.z
   have z3:=Qa BX10.out.o 3 _ rfl
   have cc3:=Qa BX10.out.z 3 _ rfl
   have f3:W10.frozen? ⟨w.heap.size+1,3,none⟩=false:=frozen_of_row _ _ _ _ _ BX10.out.z
   have z4:=Qa BX10.out.o 4 _ rfl
   have cc4:=Qa BX10.out.z 4 _ rfl
   have f4:W10.frozen? ⟨w.heap.size+1,4,none⟩=false:=frozen_of_row _ _ _ _ _ BX10.out.z
   have z5:=Qa BX10.out.o 5 _ rfl
   have cc5:=Qa BX10.out.z 5 _ rfl
   have f5:W10.frozen? ⟨w.heap.size+1,5,none⟩=false:=frozen_of_row _ _ _ _ _ BX10.out.z
   have z6:=Qa BX10.out.o 6 _ rfl
   have cc6:=Qa BX10.out.z 6 _ rfl
   have f6:W10.frozen? ⟨w.heap.size+1,6,none⟩=false:=frozen_of_row _ _ _ _ _ BX10.out.z
   have z7:=Qa BX10.out.o 7 _ rfl
   have cc7:=Qa BX10.out.z 7 _ rfl
   have f7:W10.frozen? ⟨w.heap.size+1,7,none⟩=false:=frozen_of_row _ _ _ _ _ BX10.out.z
   have z8:=Qa BX10.out.o 8 _ rfl
   have cc8:=Qa BX10.out.z 8 _ rfl
   have f8:W10.frozen? ⟨w.heap.size+1,8,none⟩=false:=frozen_of_row _ _ _ _ _ BX10.out.z
   have z9:=Qa BX10.out.o 9 _ rfl
   have cc9:=Qa BX10.out.z 9 _ rfl
   have f9:W10.frozen? ⟨w.heap.size+1,9,none⟩=false:=frozen_of_row _ _ _ _ _ BX10.out.z
   have z10:=Qa BX10.out.o 10 _ rfl
   have cc10:=Qa BX10.out.z 10 _ rfl
   have f10:W10.frozen? ⟨w.heap.size+1,10,none⟩=false:=frozen_of_row _ _ _ _ _ BX10.out.z
   have z11:=Qa BX10.out.o 11 _ rfl
   have cc11:=Qa BX10.out.z 11 _ rfl
   have f11:W10.frozen? ⟨w.heap.size+1,11,none⟩=false:=frozen_of_row _ _ _ _ _ BX10.out.z
   have z12:=Qa BX10.out.o 12 _ rfl
   have cc12:=Qa BX10.out.z 12 _ rfl
   have f12:W10.frozen? ⟨w.heap.size+1,12,none⟩=false:=frozen_of_row _ _ _ _ _ BX10.out.z
   have z13:=Qa BX10.out.o 13 _ rfl
   have cc13:=Qa BX10.out.z 13 _ rfl
   have f13:W10.frozen? ⟨w.heap.size+1,13,none⟩=false:=frozen_of_row _ _ _ _ _ BX10.out.z
   obtain ⟨e1,e2,e3,e4⟩:=Zn BX10.out.z (.int .i64 pc) (.slice u1 k1 d1) (.slice u2 ops.length d2) (.bool last) (.bool redo) (.slice ad n5 cd) (.slice u6 full.length d6) (.slice u7 k7 d7) (.slice u8 k8 d8) (.slice u9 k9 d9) (.slice u10 k10 d10) (.slice u11 rows.length d11) (.int .i64 loss) (.bool sat)
   have HB:=Lib.hid (e4 w.heap.size w (by omega) BX10.out.below)
   have E1:=Lib.hid e1
   have E2:=Lib.hid e2
   have E3:=Lib.hid e3
   clear e1 e2 e3 e4
   go_wp2_with fail
   refine bodyPost_ret (results_cell_row rfl _ _ (w.heap.size+1) 32 #[.int .i64 pc,.slice u1 k1 d1,.slice u2 ops.length d2,.bool last,.bool redo,.slice ad n5 cd,.slice u6 full.length d6,.slice u7 k7 d7,.slice u8 k8 d8,.slice u9 k9 d9,.slice u10 k10 d10,.slice u11 rows.length d11,.int .i64 loss,.bool sat] (0,0) _ rfl E1.out Tryz.underlying32 rfl (by kernel_rfl)) rfl ?_
   clear z0 cc0 f0 z1 cc1 f1 z2 cc2 f2 z3 cc3 f3 z4 cc4 f4 z5 cc5 f5 z6 cc6 f6 z7 cc7 f7 z8 cc8 f8 z9 cc9 f9 z10 cc10 f10 z11 cc11 f11 z12 cc12 f12 z13 cc13 f13
   have GF:Grew (w.heap.size+3) W10 _:=⟨Nat.le_of_eq E2.out.symm,fun b h1 _=>E3.out b (by omega)⟩
   have T9:=G10.out.trans GF
   have T8:=G9.out.trans T9
   have T7:=G8.out.trans T8
   have T6:=G7.out.trans T7
   have T5:=G6.out.trans T6
   have T4:=G5.out.trans T5
   have h0:=BX0.out.size
   have h1:=G1.out.1
   have h2:=G2.out.1
   have h4:=GR4.out.1
   have h5:=G5.out.1
   have h6:=G6.out.1
   have h7:=G7.out.1
   have h8:=G8.out.1
   have h9:=G9.out.1
   have h10:=G10.out.1
   have hf:=GF.1
   refine ⟨_,_,_,_,_,_,_,_,_,W2.heap.size,wr.heap.size,rfl,HB.out,by omega,by omega,by omega,?_,?_,?_,?_,?_,?_,?_,?_,?_⟩
   ·exact (LL1.out.grew (GR4.out.trans T4) (by omega)).wide (by omega) (by omega) (by omega)
   ·exact ((LL2.out.grew G2.out (by omega)).grew (GR4.out.trans T4) (by omega)).wide (by omega) (by omega) (by omega)
   ·exact LS4.out.grew T4 (by omega)
   ·exact (LL6.out.grew T5 (by omega)).wide (by omega) (by omega) (Nat.le_refl _)
   ·exact (LL7.out.grew T6 (by omega)).wide (by omega) (by omega) (Nat.le_refl _)
   ·exact (LL8.out.grew T7 (by omega)).wide (by omega) (by omega) (Nat.le_refl _)
   ·exact (LL9.out.grew T8 (by omega)).wide (by omega) (by omega) (Nat.le_refl _)
   ·exact (LL10.out.grew T9 (by omega)).wide (by omega) (by omega) (Nat.le_refl _)
   ·exact (LL11.out.grew GF (by omega)).wide (by omega) (by omega) (Nat.le_refl _)
end Go.Proofs.YtcooobnaocbdjaaGreatDoor
