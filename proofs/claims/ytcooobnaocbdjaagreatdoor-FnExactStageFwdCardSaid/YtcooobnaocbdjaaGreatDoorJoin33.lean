import Derived.Test.YtcooobnaocbdjaaGreatDoorJoin22
import Derived.Test.YtcooobnaocbdjaaGreatDoorJoin30
import Derived.Test.YtcooobnaocbdjaaGreatDoorJoin32
import Derived.Test.YtcooobnaocbdjaaGreatDoorJoin25
import Derived.Test.YtcooobnaocbdjaaGreatDoorJoin9
import Derived.Deep.QuietTactic
import Derived.BigQuiet
/-! YtcooobnaocbdjaaGreatDoorPStgH -/
section
set_option linter.unusedVariables false
namespace Go.Proofs.YtcooobnaocbdjaaGreatDoor
open Go.RowKit Go.Sort
theorem Owned.ownsBut {α:Type} (S:Owned α) {X:Nat->Prop} {F:Foot} {wx wy:World} {es:List Value} {x:α} (h:S.owns F wx es x) (hb:ButX X wx wy) (hX : ∀ b o,F b o -> ¬ X b/\b<wx.heap.size):S.owns F wy es x:=
 S.owns_keep h fun b o f=>by
  have e:=hb.2 b (hX b o f).1 (hX b o f).2
  exact ⟨World.cell?_of_block (a:=⟨b,o,none⟩) e,World.frozen?_of_block (a:=⟨b,o,none⟩) e⟩
theorem Qbo.but {α:Type} {S:Owned α} {T:TypeId} {J X:Nat->Prop} {wx wy:World} {v:Value} {xs:List α} (h:Qbo S T J wx v xs) (hb:ButX X wx wy) (hX : ∀ b,J b -> ¬ X b/\b<wx.heap.size):Qbo S T J wy v xs:=
 h.keep fun b hj=>hb.2 b (hX b hj).1 (hX b hj).2
theorem Qk.oneRow {F:Foot} {w:World} {b o n:Nat} {xs:List dRow} {u:Value} (h:Qk ownRow F w (some ⟨b,o,none⟩) n xs) (hn:1<=n) (hu:w.cell? ⟨b,o,none⟩=some u) (hF : ∀ b o,F b o->b<w.heap.size) :
  Qk ownRow (fun b' o'=>F b' o'\/b'=w.heap.size) (w.alloc (.cells #[u] 95 (0,0))) (some ⟨w.heap.size,0,none⟩) 1 (xs.take 1):=by
 have hal:=(Below.refl w.heap.size w).alloc (Nat.le_refl _) (.cells #[u] 95 (0,0))
 have hnew:=heap_alloc_new w (.cells #[u] 95 (0,0))
 obtain ⟨h0,h1⟩:=h.take 1 hn
 rcases h1 with h1 | ⟨b',o',G,e,q1,q2,q3,q4,q5⟩
 ·exact absurd h1 (by omega)
 ·cases e
  refine ⟨h0,.inr ⟨w.heap.size,0,fun j=>if j=0 then G 0 else fun _ _=>False,rfl,fun i hi => .inr rfl,fun j hj => ?_,fun j x hx => ?_,fun j b' o' f => ?_,fun j j' hne b' o' f f' => ?_⟩⟩
  ·have hs:(1:Nat)*ownRow.size=1:=by decide
   rw [hs] at hj
   obtain rfl:j=0:=by omega
   exact ⟨by rw [show w.heap.size=w.heap.size from rfl,cell_of_row _ _ 0 _ _ _ hnew];rfl,frozen_of_row _ _ 0 _ _ hnew⟩
  ·have hj:j<1:=by have:=(List.getElem?_eq_some_iff.1 hx).1;omega
   obtain rfl:j=0:=by omega
   obtain ⟨es,r1,r2⟩:=q3 0 x hx
   obtain ⟨a0,n0,c0,rfl,rest⟩:=Qa8.1 r2
   have hc:=r1 0 _ rfl
   simp only [Nat.zero_mul,Nat.add_zero] at hc
   rw [hu] at hc
   obtain rfl:=Option.some.inj hc
   refine ⟨[.slice a0 n0 c0],fun j v hv => ?_,?_⟩
   ·cases j with
    | zero =>
     simp only [List.getElem?_cons_zero,Option.some.injEq] at hv
     subst hv
     exact cell_of_row _ _ 0 _ _ _ hnew
    | succ j=>simp at hv
   ·simp only [if_true]
    exact ownRow.owns_keep r2 (.of_below hal fun b o f=>hF b o (q4 0 b o f).1)
  ·by_cases hj:j=0
   ·simp only [if_pos hj] at f
    exact ⟨.inl (q4 0 b' o' f).1,fun c=>by
     have h2:=hF _ _ (q4 0 b' o' f).1
     have h3:b'=w.heap.size:=c.1
     omega⟩
   ·simp only [if_neg hj] at f
  ·by_cases hj:j=0
   ·by_cases hj':j'=0
    ·omega
    ·simp only [if_neg hj'] at f'
   ·simp only [if_neg hj] at f
theorem Qoo {s:Qq} {m:Int} {x t:List Int} (h:Za s m x t=true):Qt (opsS s)=true/\Qm x=true/\(x.length:Int)=Qca (opsS s):=by
 rw [Qjf] at h
 unfold Qg1 at h
 rw [Bool.and_eq_true,Bool.and_eq_true,Bool.and_eq_true] at h
 have h1:=h.1.2
 unfold Qcy at h1
 rw [Bool.and_eq_true] at h1
 refine ⟨?_,h1.1,of_decide_eq_true h1.2⟩
 cases e:Qt (opsS s) with
 | true=>rfl
 | false=>have:=h.1.1.1;rw [Qaj e] at this;cases this
theorem Qlk {m:List dOp} {X:List Int} (h:X.length<=6) : ∀ k,(inK m X k).length<=6
 | 0=>h
 | k+1=>Qb2 _ _
end Go.Proofs.YtcooobnaocbdjaaGreatDoor

end

/-! YtcooobnaocbdjaaGreatDoorPSeqI -/
section
set_option maxRecDepth 100000
set_option maxHeartbeats 6400000
set_option linter.unusedVariables false
namespace Go.Proofs.YtcooobnaocbdjaaGreatDoor
open Go.RowKit Go.Sort
theorem ListL.one {base:Nat} {w:World} {u:Value} {x:List Int} (h:Row base w u x) (hb:base<=w.heap.size) :
  ListL ownRow 95 base (w.alloc (.cells #[u] 95 (0,0))).heap.size (w.alloc (.cells #[u] 95 (0,0))) (.slice (some ⟨w.heap.size,0,none⟩) 1 1) [x]:=by
 have hk:=Row.below h ((Below.refl w.heap.size w).alloc (Nat.le_refl _) (.cells #[u] 95 (0,0)))
 have ho:=Row.ownRow h
 refine ⟨Nat.le_refl _,[u],fun j=>if j=0 then Zb base w.heap.size else fun _ _=>False,World.ownsRow_lit (base:=base) (e:=95) (size:=1) w #[u] 1 hb (by unfold maxLen;omega) rfl,fun g hg => ?_,fun j y hy => ?_,fun j b o f => ?_,fun j j' hne b o f f' => ?_⟩
 ·have e:w.heap.size=g:=by simpa [Value.ownBlock] using hg
  rw [Qdx]
  omega
 ·cases j with
  | zero =>
   simp at hy
   subst hy
   refine ⟨[u],fun i v hv=>by simpa using hv,?_⟩
   simp only [if_true]
   exact ownRow.owns_keep ho (.of_below ((Below.refl w.heap.size w).alloc (Nat.le_refl _) _) fun b o f=>f.2)
  | succ j=>simp at hy
 ·by_cases hj:j=0
  ·simp only [if_pos hj] at f
   refine ⟨f.1,by rw [Qdx];have:=f.2;omega,fun e => ?_⟩
   have e':w.heap.size=b:=by simpa [Value.ownBlock] using e
   have:=f.2
   omega
  ·simp only [if_neg hj] at f
 ·by_cases hj:j=0
  ·by_cases hj':j'=0
   ·omega
   ·simp only [if_neg hj'] at f'
  ·simp only [if_neg hj] at f
theorem Qjo {F:Foot} {w:World} {es:List Value} {x:List Int} {B:Nat} (h:ownRow.owns F w es x) (hF : ∀ b o,F b o->b<B) (hb:x.length<=1048576) : ∃ a n c,es=[.slice a n c]/\IntsIn B w a n x:=by
 obtain ⟨a,n,c,rfl,-,-,hl⟩:=h
 refine ⟨a,n,c,rfl,?_⟩
 have:=(hl.listAt (I:=Qf B) (fun b o f=>hF b o f) (by decide)).ints (by have:=hl.1;omega)
 exact this
theorem ListL.at {T:TypeId} {lo hi:Nat} {w:World} {a:Option Addr} {n c:Nat} {xs:List dRow} (h:ListL ownRow T lo hi w (.slice a n c) xs) (j:Nat) (x:dRow) (hx:xs[j]? = some x) (hb:x.length<=1048576) :
  ∃ g ax nx cx,a=some ⟨g,0,none⟩/\j<n/\lo<=g/\g<hi/\w.cell? ⟨g,j,none⟩=some (.slice ax nx cx)/\IntsIn hi w ax nx x:=by
 obtain ⟨us,G,h1,h2,h3,h4,h5⟩:=h.all
 have hj:=(List.getElem?_eq_some_iff.1 hx).1
 obtain ⟨es,q1,q2⟩:=h3 j x hx
 obtain ⟨ax,nx,cx,rfl,hi'⟩:=Qjo q2 (fun b o f=>(h4 j b o f).2.1) hb
 have h1':=h1
 rcases h1.2 with ⟨e,hn⟩ | ⟨g,cap,cur,e,e1,e2,e3,e4,-⟩
 ·omega
 ·cases e
  refine ⟨g,ax,nx,cx,rfl,hj,e1,h2 g rfl,?_,hi'⟩
  rw [World.ownsRow.cellAt h1' j (by show j<xs.length*1;omega)]
  have:=q1 0 _ rfl
  simpa [Jo] using this
theorem Qb9 (w:World) (a:Option Addr) (n c:Nat) (m:List dOp) (h:Qb shOp (Qf w.heap.size) w a n m) (hb:(Shape.list shOp).bulk m<=1048576) (ax:Option Addr) (nx cx:Nat) (xs:List Int) (hx:IntsIn w.heap.size w ax nx xs) (h1:1<=nx) (h6:nx<=6) :
  Calls Tryz.prog 74 #[.slice a n c,.slice ax nx cx] w fun e w' => ∃ v,e = .returned (.tuple #[v,.bool (inKB m xs n)])/\ListL ownRow 95 w.heap.size w'.heap.size w' v (Qai (inK m xs) (n+1))/\Below w.heap.size w w':=by
 obtain ⟨i0,hi,hz0,hz1,hz2⟩:=info_parts Tryz.infoI64
 obtain ⟨j0,hj,hy0,hy1,hy2⟩:=info_parts Qlg
 have hlen:=h.1
 rw [Qh _ h] at hb
 have hn1:n<=1048576:=by omega
 obtain ⟨b,p,rfl,hbB,-⟩:=hx.cells 0 (by omega)
 have HL:=Lib.hid h
 have HB:=Lib.hid hb
 have HX:=Lib.hid hx
 have hlx:=hx.len
 have hsm : ∀ k,(inK m xs k).length<=6:=fun k=>by
  cases k with
  | zero=>show xs.length<=6;omega
  | succ k=>exact Qb2 _ _
 have HSM:=Lib.hid hsm
 clear h hb hx hsm
 go_enter Tryz.func74,Tryz.ntmps74
 go_wp2_with (at_builtin;refine wpList_append_own _ rfl _ _ 28 rfl w.heap.size 3 i0 (.int .i64 0) 1 8 Tryz.underlying28 hi hz0 hz1 hz2 rfl (by decide) _ _ _ rfl (Qgw w) ⟨b,p,none⟩ nx cx (Qp xs) rfl (by rw [Z5,hlx,Nat.mul_one]) (Qiu (HX.out.below ((Below.refl w.heap.size w).alloc (Nat.le_refl _) _) (by omega))) (Jf _) (by unfold maxLen;omega) (by omega) (by simp) ?_;intro v2 w2 hown hgrow _;have hr:=Qiw hown;have hb2:=((Below.refl w.heap.size w).alloc (Nat.le_refl _) (.cells #[] 3 (0,0))).grown hgrow (by simp) (fun k e=>by cases e;exact Nat.le_refl _);clear hown hgrow;obtain ⟨a2,c2,rfl,-⟩:=hr.form)
 have hone:=ListL.one hr hb2.size
 rw [hlx] at hone
 have hbo:Below w.heap.size w (w2.alloc (.cells #[.slice a2 nx c2] 95 (0,0))):=hb2.alloc hb2.size _
 have HONE:=Lib.hid hone
 have HBO:=Lib.hid hbo
 generalize hw3:w2.alloc (.cells #[.slice a2 nx c2] 95 (0,0))=w3 at HONE HBO |-
 have hs3:w2.heap.size<w3.heap.size:=by rw [<- hw3];simp
 clear hone hbo hr hw3
 go_loopw [6,7,8] (fun v o i wr => ∃ (k:Nat) (q:Bool),k<=n/\i = .int .i64 k/\o = .bool q/\Hid (q=inKB m xs k)/\ListL ownRow 95 w.heap.size wr.heap.size wr v (Qai (inK m xs) (k+1))/\Below w.heap.size w wr) (fun _ _ i _=>n-(intOf i).toNat)
 case atStart=>exact ⟨0,false,Nat.zero_le _,rfl,rfl,Lib.hid rfl,HONE.out,HBO.out⟩
 case round =>
  obtain ⟨k,q,hk,rfl,rfl,ho,hli,hbw⟩:=hrel
  obtain ⟨av,cv,rfl,hcv,-⟩:=hli.form
  have hkl:=Zy (inK m xs) (k+1)
  rw [hkl] at hli hcv |-
  have HKL:=Lib.hid hkl
  clear hkl
  have hsz:=hbw.size
  have HLI:=Lib.hid hli
  have HBW:=Lib.hid hbw
  by_cases hlt:k<n
  ·obtain ⟨x,hx⟩ : ∃ x,m[k]? = some x:=⟨_,List.getElem?_eq_getElem (by rw [hlen];exact hlt)⟩
   obtain ⟨b1,o1,es,rfl,hbB1,hr,hs⟩:=HL.out.2 k x hx
   have hrr:=Qr hr (show b1<w.heap.size from hbB1) (Kept.of_below (I:=Qf w.heap.size) hbw fun b hb=>hb)
   have hdr:Below w.heap.size w wr.drew:=hbw.trans ⟨rfl,rfl,rfl,Nat.le_refl _,fun _ _=>rfl⟩
   have hsw:=shOp.below hs hdr (Nat.le_refl _)
   have hbx':shOp.bulk x<=1048576:=by have h1:=Qz shOp.bulk m k x hx;have h2:=HB.out;omega
   rw [Z6,Ql] at hbx'
   obtain ⟨ae,ne,ce,rfl,ge,le,me⟩:=Q3.1 hsw
   obtain ⟨g,ay,ny,cy,rfl,hg1,hg2,hg3,cg,iy⟩:=hli.at k (inK m xs k) (Qan _ _ _ (by omega)) (by have:=HSM.out k;omega)
   have hC:=Qd6 wr.drew x.1 x.2.1 x.2.2.1 ae ne ce x.2.2.2 ay ny cy (inK m xs k) ((me.ints (by rw [<- me.1];exact hbx')).le hdr.size) ge le ((iy.below (show Below wr.heap.size wr wr.drew from (Below.refl _ _).drew) (Nat.le_refl _)))
   have hfk:inK m xs (k+1)=fwN x.1 x.2.1 x.2.2.1 x.2.2.2 (inK m xs k):=by
    show fwOp (opAt m k) (inK m xs k)=_
    rw [Zf hx]
    rfl
   have hgk:inKB m xs (k+1)=(inKB m xs k || fwB x.1 x.2.1 x.2.2.1 x.2.2.2 (inK m xs k)):=by
    show (inKB m xs k || Qq2 (opAt m k) (inK m xs k))=_
    rw [Zf hx]
    rfl
   rw [<- hfk] at hC
   obtain ⟨fl,hfl⟩ : ∃ q,fwB x.1 x.2.1 x.2.2.1 x.2.2.2 (inK m xs k)=q:=⟨_,rfl⟩
   rw [hfl] at hC hgk
   have HC:=Lib.hid hC
   have HGK:=Lib.hid hgk
   rw [Zd] at hrr
   have d0:=hrr 0 _ rfl
   have d1:=hrr 1 _ rfl
   have d2:=hrr 2 _ rfl
   have d3:=hrr 3 _ rfl
   simp only [Nat.add_zero] at d0
   clear hr hrr hs hsw me hx hbx' hfk hgk hfl hC hbB1 hdr hli hbw iy
   have hkk:(k:Int)<(k:Int)+1:=by omega
   go_upto_region 6 with fail
   go_cut [9,10] (fun t u wx=>u = .bool fl/\Row wr.heap.size wx t (inK m xs (k+1))/\Below wr.heap.size wr wx)
   case first =>
    go_region_law (first
     | (go_simp;go_at_call 168;(with_reducible refine HC.out.mono ?_);rintro e wt ⟨v',rfl,hr,hb⟩;have HR:=Lib.hid hr;have HBT:=Lib.hid hb;clear hr hb))
    all_goals
     go_wp2_with fail
     go_meet
     case rel=>exact ⟨rfl,HR.out,((Below.refl wr.heap.size wr).drew).trans HBT.out⟩
   case rest =>
    obtain ⟨rfl,hr,hb⟩:=hcut
    obtain ⟨w4,rfl⟩ : ∃ W,W=wc:=⟨_,rfl⟩
    obtain ⟨u2,hu2⟩ : ∃ u,u=inK m xs (k+1):=⟨_,rfl⟩
    rw [<- hu2] at hr
    obtain ⟨a2,c2,rfl,-⟩:=hr.form
    have hl2:=(HLI.out.below hb (Nat.le_refl _))
    obtain ⟨us,G,h1,h2,h3,h4,h5⟩:=hl2.all
    obtain ⟨n2,hn2⟩ : ∃ q,u2.length=q:=⟨_,rfl⟩
    rw [hn2] at hr |-
    have hP:Hid (∀ (w5:World) (g' cap:Nat),w5.ownsRow w.heap.size 95 1 (.slice (some ⟨g',0,none⟩) (k+1+1) cap) (k+1+1) (us ++ [.slice a2 n2 c2])->(w4.alloc (.cells #[.slice a2 n2 c2] 95 (0,0))).grownBy w5 (Value.slice (some ⟨g,0,none⟩) (k+1) cv).ownBlock ->
      ((Value.slice (some ⟨g,0,none⟩) (k+1) cv).ownBlock=some g'\/g'=(w4.alloc (.cells #[.slice a2 n2 c2] 95 (0,0))).heap.size)->ListL ownRow 95 w.heap.size w5.heap.size w5 (.slice (some ⟨g',0,none⟩) (k+1+1) cap) (Qai (inK m xs) (k+1+1))/\Below w.heap.size w4 w5):=Lib.hid fun w5 g' cap ho hgr hat=>by
     have hp:=ListL.put (S:=ownRow) (T:=95) (lo:=w.heap.size) (hi:=wr.heap.size) (w:=w4) (w':=w5) (v:= .slice (some ⟨g,0,none⟩) (k+1) cv) (v':= .slice (some ⟨g',0,none⟩) (k+1+1) cap) (xs:=Qai (inK m xs) (k+1)) (o:=(.cells #[.slice a2 n2 c2] 95 (0,0))) (x:=u2) (F:=Zb wr.heap.size w4.heap.size)
      hsz h1 h2 hb.size h3 h4 h5 (Row.ownRow hr) (fun b o f=>f) rfl (by rw [HKL.out];exact ho) hgr (by
       rcases hat with e | e
       ·exact .inl e.symm
       ·exact .inr (congrArg some e))
     rw [hu2] at hp
     exact hp
    rw [HKL.out] at h1
    have HRD:Hid ((w4.alloc (.cells #[.slice a2 n2 c2] 95 (0,0))).ownsRow w.heap.size 95 1 (.slice (some ⟨g,0,none⟩) (k+1) cv) (k+1) us):=Lib.hid (World.ownsRow.alloc h1 _)
    have HND:Hid (∀ j u,([Value.slice a2 n2 c2]:List Value)[j]? = some u->(w4.alloc (.cells #[.slice a2 n2 c2] 95 (0,0))).cell? ((⟨w4.heap.size,0,none⟩:Addr).add j)=some u):=Lib.hid (World.news_of_block (heap_alloc_new w4 (.cells #[.slice a2 n2 c2] 95 (0,0))))
    have hs4:=hb.size
    have HBS:Hid (w.heap.size<=(w4.alloc (.cells #[.slice a2 n2 c2] 95 (0,0))).heap.size):=Lib.hid (by rw [Qdx];omega)
    have HB4:=Lib.hid (HBW.out.trans (hb.mono hsz))
    clear d0 d1 d2 d3 cg h1 h2 h3 h4 h5 hl2 hb hr HLI HC
    cases q
    all_goals
     go_wp2_with (at_builtin;refine wpList_append_lies _ rfl _ _ 27 rfl w.heap.size 95 j0 (.agg #[.slice none 0 0]) 1 24 Tryz.underlying27 hj hy0 hy1 hy2 rfl (by decide) _ _ _ rfl HRD.out ⟨w4.heap.size,0,none⟩ 1 1 [.slice a2 n2 c2] rfl rfl HND.out (Qcw _ _ _) (by omega) (by unfold maxLen;omega) (by omega) HBS.out _ rfl ?_;intro g' cap w5 hown5 hgrow5 hat5 _;obtain ⟨hli5,hb5⟩:=hP.out w5 g' cap hown5 hgrow5 hat5;have HLI5:=Lib.hid hli5;have HB5:=Lib.hid (HB4.out.trans hb5);clear hown5 hgrow5 hat5 hli5 hb5)
     go_roundw
     case rel=>exact ⟨k+1,_,by omega,by go_num,rfl,Lib.hid (by rw [HGK.out,<- ho.out] <;> rfl),HLI5.out,HB5.out⟩
     case measure=>simp [intOf];omega
  ·obtain rfl:k=n:=by omega
   clear hli hbw
   go_wp2_with fail
   go_ret2
   exact ⟨_,by rw [<- ho.out] <;> rfl,HLI.out,HBW.out⟩
end Go.Proofs.YtcooobnaocbdjaaGreatDoor

end
