import Derived.Test.YtcooobnaocbdjaaGreatDoorJoin34
import Derived.Deep.QuietTactic
import Derived.BigQuiet
import Derived.Test.YtcooobnaocbdjaaGreatDoorJoin33
import Derived.Test.YtcooobnaocbdjaaGreatDoorJoin13
import Derived.Test.YtcooobnaocbdjaaGreatDoorJoin35
/-! YtcooobnaocbdjaaGreatDoorPMatJ -/
section
set_option linter.unusedVariables false
namespace Go.Proofs.YtcooobnaocbdjaaGreatDoor
open Go.RowKit Go.Shelf
attribute [local go_sem] Oper.semAt_some
end Go.Proofs.YtcooobnaocbdjaaGreatDoor

end

/-! YtcooobnaocbdjaaGreatDoorPOpK -/
section
set_option maxRecDepth 100000
set_option linter.unusedVariables false
namespace Go.Proofs.YtcooobnaocbdjaaGreatDoor
open Go.RowKit
theorem Qjq (b p n c:Nat) (w:World):(binOp .eql 28 (.slice (some ⟨b,p,none⟩) n c) (.slice none 0 0)).run Tryz.prog w = .ok (.bool false) w:=by kernel_rfl
theorem Qid (w:World) (a:Option Addr) (n c:Nat) (ds:List Int) (h:IntsIn w.heap.size w a n ds) (hn:1<=n) :
  Calls Tryz.prog 53 #[.slice a n c] w (RowV w ds):=by
 obtain ⟨i0,hi0,hz0,hz1,hz2⟩:=info_parts Tryz.infoI64
 have hl:=h.len
 have hroom:=h.room
 obtain ⟨b,p,rfl,hbB,-⟩:=h.cells 0 (by omega)
 have HY:=Lib.hid h
 have HL:=Lib.hid hl
 have hnn:=Qjq b p n c
 clear h hl
 go_enter Tryz.func53,Tryz.ntmps53
 go_wp2_with (at_builtin;refine wpList_append_own _ rfl _ _ 28 rfl w.heap.size 3 i0 (.int .i64 0) 1 8 Tryz.underlying28 hi0 hz0 hz1 hz2 rfl (by decide) _ _ _ rfl (Qgw w) ⟨b,p,none⟩ n c (Qp ds) rfl (by rw [Z5,HL.out,Nat.mul_one]) (Qiu (HY.out.below ((Below.refl w.heap.size w).alloc (Nat.le_refl _) _) (by omega))) (Jf _) (by unfold maxLen;omega) (by omega) (by simp) ?_;intro v2 w2 hown hgrow _;have hr:=Qiw hown;have hb:=((Below.refl w.heap.size w).alloc (Nat.le_refl _) (.cells #[] 3 (0,0))).grown hgrow (by simp) (fun k e=>by cases e;exact Nat.le_refl _);have HR:=Lib.hid hr;have HB:=Lib.hid hb;clear hown hgrow hr hb)
 go_ret
 exact ⟨v2,rfl,HR.out,HB.out⟩
end Go.Proofs.YtcooobnaocbdjaaGreatDoor

end

/-! YtcooobnaocbdjaaGreatDoorPSeqU -/
section
set_option maxRecDepth 100000
set_option maxHeartbeats 6400000
set_option linter.unusedVariables false
namespace Go.Proofs.YtcooobnaocbdjaaGreatDoor
open Go.RowKit Go.Sort
theorem Qgg (w:World) (a:Option Addr) (n c:Nat) (m:List dOp) (h:Qb shOp (Qf w.heap.size) w a n m) (hc1:n<=c) (hc2:c<=9223372036854775807) (hb:(Shape.list shOp).bulk m<=1048576) (ax:Option Addr) (nx cx:Nat) (xs:List Int) (hx:IntsIn w.heap.size w ax nx xs) (hg:Z0 w) (hv:Qm xs=true) (hi:(nx:Int)=Qca m) :
  Calls Tryz.prog 51 #[.agg #[.slice a n c],.slice ax nx cx] w fun e w' => ∃ v,e = .returned (.tuple #[v,.bool (inKB m xs n)])/\ListL ownRow 95 w.heap.size w'.heap.size w' v (Qai (inK m xs) (n+1))/\Below w.heap.size w w':=by
 obtain ⟨j0,hj,hy0,hy1,hy2⟩:=info_parts Qlg
 have hlen:=h.1
 have hbm:=hb
 rw [Qh _ h] at hb
 have hn1:n<=1048576:=by omega
 have hlx:=hx.len
 have hx1:=(Q8 hv).1
 have hx6:=(Q8 hv).2.1
 rw [hlx] at hx1 hx6
 obtain ⟨b,p,rfl,hbB,-⟩:=hx.cells 0 (by omega)
 have hsm : ∀ k,(inK m xs k).length<=6:=fun k=>by
  cases k with
  | zero=>show xs.length<=6;omega
  | succ k=>exact Qb2 _ _
 have hlt:=hg.lt
 have hal:=(Below.refl w.heap.size w).alloc (Nat.le_refl _) (.cells #[.slice a n c] 92 (0,0))
 have hA:=heap_alloc_new w (.cells #[.slice a n c] 92 (0,0))
 have hs1:(w.alloc (.cells #[.slice a n c] 92 (0,0))).heap.size=w.heap.size+1:=by simp
 have hmr : ∀ (w1:World),Below w.heap.size w w1->Qa3.reads (Qf w1.heap.size) w1 [.slice a n c] m:=fun w1 hb1=>Ji.2 ⟨a,n,c,rfl,hc1,hc2,(h.below hb1 (Nat.le_refl _)).le hb1.size⟩
 have HV:=Lib.hid fun (w1:World) (hb1:Below w.heap.size w w1)=>Qv w1 (some ⟨b,p,none⟩) nx cx xs ((hx.below hb1 (Nat.le_refl _)).le hb1.size)
 have HI:=Lib.hid fun (w1:World) (hb1:Below w.heap.size w w1)=>Qg0 w1 [.slice a n c] m (hmr w1 hb1) hbm
 have HC:=Lib.hid fun (w1:World) (hb1:Below w.heap.size w w1)=>Qid w1 (some ⟨b,p,none⟩) nx cx xs ((hx.below hb1 (Nat.le_refl _)).le hb1.size) hx1
 rw [Hid] at HV HI
 simp only [hv] at HV
 simp only [<- hi] at HI
 replace HV:=Lib.hid HV
 replace HI:=Lib.hid HI
 have HL:=Lib.hid h
 have HB:=Lib.hid hb
 have HSM:=Lib.hid hsm
 have HG:=Lib.hid hg
 have HAL:=Lib.hid hal
 have HA:=Lib.hid hA
 clear h hb hx hsm hbm hmr hg hv hi hal hA
 go_enter Tryz.func51,Tryz.ntmps51
 go_wp2_with fail
 generalize w.alloc (.cells #[.slice a n c] 92 (0,0))=wa at HAL HA hs1 |-
 refine (HV.out wa HAL.out).mono ?_
 rintro e w1 ⟨rfl,rfl⟩
 have z0:=box1 HA.out
 go_wp2_with fail
 refine (HI.out wa HAL.out).mono ?_
 rintro e w1 ⟨rfl,hb1⟩
 have hs1':=hb1.size
 have HA1:=Lib.hid ((hb1.block w.heap.size (by omega)).trans HA.out)
 have H1:=Lib.hid (HAL.out.trans (hb1.mono (by omega)))
 clear z0 hb1
 have z0:=box1 HA1.out
 go_wp2_with fail
 refine (HC.out w1 H1.out).mono ?_
 rintro e w2 ⟨v2,rfl,hr,hb2⟩
 obtain ⟨a2,c2,rfl,-⟩:=hr.form
 have hs2:=hb2.size
 have HA2:=Lib.hid ((hb2.block w.heap.size (by omega)).trans HA1.out)
 have H2:=Lib.hid (H1.out.trans (hb2.mono (by omega)))
 have hr':=hr.le (show w.heap.size+1<=w1.heap.size by omega)
 have hone:=ListL.one hr' (by omega)
 rw [hlx] at hone hr |-
 have hbo:Below w1.heap.size w1 (w2.alloc (.cells #[.slice a2 nx c2] 95 (0,0))):=hb2.alloc hb2.size _
 have HONE:=Lib.hid hone
 have HBO:=Lib.hid hbo
 clear hr hr' hone hbo hb2 z0
 generalize hw3:w2.alloc (.cells #[.slice a2 nx c2] 95 (0,0))=w3 at HONE HBO
 have hs3:w2.heap.size<w3.heap.size:=by rw [<- hw3];simp
 have z0:=box1 ((HBO.out.block w.heap.size (by omega)).trans HA1.out)
 have H3:=Lib.hid (H1.out.trans (HBO.out.mono (by omega)))
 go_upto_region 4 with fail
 go_wp2_with fail
 clear z0 hw3
 go_loopw [6,7,29] (fun v o i wr => ∃ (k:Nat) (q:Bool),k<=n/\i = .int .i64 k/\o = .bool q/\Hid (q=inKB m xs k)/\ListL ownRow 95 (w.heap.size+1) wr.heap.size wr v (Qai (inK m xs) (k+1))/\Below w.heap.size w wr) (fun _ _ i _=>n-(intOf i).toNat)
 case atStart=>exact ⟨0,false,Nat.zero_le _,rfl,rfl,Lib.hid rfl,HONE.out,H3.out⟩
 case round =>
  obtain ⟨k,q,hk,rfl,rfl,ho,hli,hbw⟩:=hrel
  obtain ⟨av,cv,rfl,hcv,-⟩:=hli.form
  have hkl:=Zy (inK m xs) (k+1)
  rw [hkl] at hli hcv |-
  have HKL:=Lib.hid hkl
  clear hkl
  have hsz:=hbw.size
  have hlo:w.heap.size+1<=wr.heap.size:=by
   obtain ⟨g,ay,ny,cy,e,-,hg1,hg2,-⟩:=hli.at k (inK m xs k) (Qan _ _ _ (by omega)) (by have:=HSM.out k;omega)
   omega
  have HLI:=Lib.hid hli
  have HBW:=Lib.hid hbw
  by_cases hltk:k<n
  ·obtain ⟨x,hx⟩ : ∃ x,m[k]? = some x:=⟨_,List.getElem?_eq_getElem (by rw [hlen];exact hltk)⟩
   obtain ⟨b1,o1,es,rfl,hbB1,hr,hs⟩:=HL.out.2 k x hx
   have hrr:=Qr hr (show b1<w.heap.size from hbB1) (Kept.of_below (I:=Qf w.heap.size) hbw fun b hb=>hb)
   have hsw:=shOp.below hs hbw (Nat.le_refl _)
   have hbx':shOp.bulk x<=1048576:=by have h1:=Qz shOp.bulk m k x hx;have h2:=HB.out;omega
   rw [Z6,Ql] at hbx'
   obtain ⟨ae,ne,ce,rfl,ge,le,me⟩:=Q3.1 hsw
   have hfk:inK m xs (k+1)=fwN x.1 x.2.1 x.2.2.1 x.2.2.2 (inK m xs k):=by
    show fwOp (opAt m k) (inK m xs k)=_
    rw [Zf hx]
    rfl
   have hgk:inKB m xs (k+1)=(inKB m xs k || fwB x.1 x.2.1 x.2.2.1 x.2.2.2 (inK m xs k)):=by
    show (inKB m xs k || Qq2 (opAt m k) (inK m xs k))=_
    rw [Zf hx]
    rfl
   rw [Zd] at hrr
   have d0:=hrr 0 _ rfl
   have d1:=hrr 1 _ rfl
   have d2:=hrr 2 _ rfl
   have d3:=hrr 3 _ rfl
   simp only [Nat.add_zero] at d0
   have hq:=(Below.refl wr.heap.size wr).alloc (Nat.le_refl _) (.cells #[.int .i64 x.1,.int .i64 x.2.1,.int .i64 x.2.2.1,.slice ae ne ce] 38 (0,0))
   have hqn:=heap_alloc_new wr (.cells #[.int .i64 x.1,.int .i64 x.2.1,.int .i64 x.2.2.1,.slice ae ne ce] 38 (0,0))
   have hqs:(wr.alloc (.cells #[.int .i64 x.1,.int .i64 x.2.1,.int .i64 x.2.2.1,.slice ae ne ce] 38 (0,0))).heap.size=wr.heap.size+1:=by simp
   go_upto_region 7 with fail
   generalize wr.alloc (.cells #[.int .i64 x.1,.int .i64 x.2.1,.int .i64 x.2.2.1,.slice ae ne ce] 38 (0,0))=w4 at hq hqn hqs |-
   have hli4:=hli.below hq (Nat.le_refl _)
   obtain ⟨g,ay,ny,cy,rfl,hg1,hg2,hg3,cg,iy⟩:=hli4.at k (inK m xs k) (Qan _ _ _ (by omega)) (by have:=HSM.out k;omega)
   have hb4:=hbw.trans (hq.mono hsz)
   have hdr:Below w.heap.size w w4.drew:=hb4.trans ⟨rfl,rfl,rfl,Nat.le_refl _,fun _ _=>rfl⟩
   have hds:w4.drew.heap.size=w4.heap.size:=rfl
   have hC:=Qeg w4.drew x.1 x.2.1 x.2.2.1 ae ne ce x.2.2.2 ay ny cy (inK m xs k) ((((me.ints (by rw [<- me.1];exact hbx')).below hq (by omega)).below (show Below w4.heap.size w4 w4.drew from (Below.refl _ _).drew) (by omega)).le (by omega)) ge le ((iy.below (show Below w4.heap.size w4 w4.drew from (Below.refl _ _).drew) (by omega)).le (by omega)) (HG.out.below hlt hdr)
   rw [<- hfk] at hC
   obtain ⟨fl,hfl⟩ : ∃ q,fwB x.1 x.2.1 x.2.2.1 x.2.2.2 (inK m xs k)=q:=⟨_,rfl⟩
   rw [hfl] at hC hgk
   have HC:=Lib.hid hC
   have HGK:=Lib.hid hgk
   have HLI4:=Lib.hid hli4
   have HB4:=Lib.hid hb4
   have hkk:(k:Int)<(k:Int)+1:=by omega
   obtain ⟨⟨p0,p1,p2,p3⟩,-⟩:=Qs hqn
   have hhi:wr.heap.size<=w4.heap.size:=by omega
   clear hr hrr hs hsw me hx hbx' hfk hgk hfl hC hbB1 hdr hli hbw iy hli4 hb4 hq hqn d0 d1 d2 d3 HLI HBW
   have hlo4:w.heap.size+1<=w4.heap.size:=by omega
   go_cut [10,11] (fun t u wx=>u = .bool fl/\Row w4.heap.size wx t (inK m xs (k+1))/\Below w4.heap.size w4 wx)
   case first =>
    go_region_law (first
     | (go_simp;go_at_call 143;(with_reducible refine HC.out.mono ?_);rintro e wt ⟨v',rfl,hr,hb⟩;have HR:=Lib.hid hr;have HBT:=Lib.hid hb;clear hr hb))
    all_goals
     go_wp2_with fail
     go_meet
     case rel=>exact ⟨rfl,HR.out,((Below.refl w4.heap.size w4).drew).trans HBT.out⟩
   case rest =>
    obtain ⟨rfl,hr,hb⟩:=hcut
    obtain ⟨w5,rfl⟩ : ∃ W,W=wc:=⟨_,rfl⟩
    obtain ⟨u2,hu2⟩ : ∃ u,u=inK m xs (k+1):=⟨_,rfl⟩
    rw [<- hu2] at hr
    obtain ⟨a2,c2,rfl,-⟩:=hr.form
    have hl2:=(HLI4.out.below hb (by omega)).wide (hi':=w4.heap.size) (Nat.le_refl _) (by omega) hb.size
    obtain ⟨us,G,h1,h2,h3,h4,h5⟩:=hl2.all
    obtain ⟨n2,hn2⟩ : ∃ q,u2.length=q:=⟨_,rfl⟩
    rw [hn2] at hr |-
    have hP:Hid (∀ (w6:World) (g' cap:Nat),w6.ownsRow (w.heap.size+1) 95 1 (.slice (some ⟨g',0,none⟩) (k+1+1) cap) (k+1+1) (us ++ [.slice a2 n2 c2])->(w5.alloc (.cells #[.slice a2 n2 c2] 95 (0,0))).grownBy w6 (Value.slice (some ⟨g,0,none⟩) (k+1) cv).ownBlock ->
      ((Value.slice (some ⟨g,0,none⟩) (k+1) cv).ownBlock=some g'\/g'=(w5.alloc (.cells #[.slice a2 n2 c2] 95 (0,0))).heap.size)->ListL ownRow 95 (w.heap.size+1) w6.heap.size w6 (.slice (some ⟨g',0,none⟩) (k+1+1) cap) (Qai (inK m xs) (k+1+1))/\Below (w.heap.size+1) w5 w6):=Lib.hid fun w6 g' cap ho hgr hat=>by
     have hp:=ListL.put (S:=ownRow) (T:=95) (lo:=w.heap.size+1) (hi:=w4.heap.size) (w:=w5) (w':=w6) (v:= .slice (some ⟨g,0,none⟩) (k+1) cv) (v':= .slice (some ⟨g',0,none⟩) (k+1+1) cap) (xs:=Qai (inK m xs) (k+1)) (o:=(.cells #[.slice a2 n2 c2] 95 (0,0))) (x:=u2) (F:=Zb w4.heap.size w5.heap.size)
      hlo4 h1 h2 hb.size h3 h4 h5 (Row.ownRow hr) (fun b o f=>f) rfl (by rw [HKL.out];exact ho) hgr (by
       rcases hat with e | e
       ·exact .inl e.symm
       ·exact .inr (congrArg some e))
     rw [hu2] at hp
     exact hp
    rw [HKL.out] at h1
    have HRD:Hid ((w5.alloc (.cells #[.slice a2 n2 c2] 95 (0,0))).ownsRow (w.heap.size+1) 95 1 (.slice (some ⟨g,0,none⟩) (k+1) cv) (k+1) us):=Lib.hid (World.ownsRow.alloc h1 _)
    have HND:Hid (∀ j u,([Value.slice a2 n2 c2]:List Value)[j]? = some u->(w5.alloc (.cells #[.slice a2 n2 c2] 95 (0,0))).cell? ((⟨w5.heap.size,0,none⟩:Addr).add j)=some u):=Lib.hid (World.news_of_block (heap_alloc_new w5 (.cells #[.slice a2 n2 c2] 95 (0,0))))
    have hs4:=hb.size
    have HBS:Hid (w.heap.size+1<=(w5.alloc (.cells #[.slice a2 n2 c2] 95 (0,0))).heap.size):=Lib.hid (by rw [Qdx];omega)
    have HB4:=Lib.hid (HB4.out.trans (hb.mono (by omega)))
    clear p0 p1 p2 p3 cg h1 h2 h3 h4 h5 hl2 hb hr HLI4 HC
    cases q
    all_goals
     go_wp2_with (at_builtin;refine wpList_append_lies _ rfl _ _ 27 rfl (w.heap.size+1) 95 j0 (.agg #[.slice none 0 0]) 1 24 Tryz.underlying27 hj hy0 hy1 hy2 rfl (by decide) _ _ _ rfl HRD.out ⟨w5.heap.size,0,none⟩ 1 1 [.slice a2 n2 c2] rfl rfl HND.out (Qcw _ _ _) (by omega) (by unfold maxLen;omega) (by omega) HBS.out _ rfl ?_;intro g' cap w6 hown5 hgrow5 hat5 _;obtain ⟨hli5,hb5⟩:=hP.out w6 g' cap hown5 hgrow5 hat5;have HLI5:=Lib.hid hli5;have HB5:=Lib.hid (HB4.out.trans (hb5.mono (by omega)));clear hown5 hgrow5 hat5 hli5 hb5)
     go_roundw
     case rel=>exact ⟨k+1,_,by omega,by go_num,rfl,Lib.hid (by rw [HGK.out,<- ho.out] <;> rfl),HLI5.out,HB5.out⟩
     case measure=>simp [intOf];omega
  ·obtain rfl:k=n:=by omega
   clear hli hbw
   go_wp2_with fail
   go_ret2
   exact ⟨_,by rw [<- ho.out] <;> rfl,HLI.out.wide (by omega) (Nat.le_refl _) (Nat.le_refl _),HBW.out⟩
end Go.Proofs.YtcooobnaocbdjaaGreatDoor

end
