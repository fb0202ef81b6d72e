import Derived.Test.YtcooobnaocbdjaaGreatDoorJoin10
import Derived.Test.YtcooobnaocbdjaaGreatDoorJoin23
import Derived.Test.YtcooobnaocbdjaaGreatDoorJoin11
import Derived.Deep.DeepCutAuto
import Derived.Sort.CutIn
import Derived.Test.YtcooobnaocbdjaaGreatDoorJoin9
/-! YtcooobnaocbdjaaGreatDoorPSeqLawM -/
section
set_option linter.unusedVariables false
namespace Go.Proofs.YtcooobnaocbdjaaGreatDoor
open Go.RowKit
def Qrc (l:List dRow):Nat->Nat
 | 0=>0
 | k+1=>Qrc l k+(Qet l k).length
end Go.Proofs.YtcooobnaocbdjaaGreatDoor

end

/-! YtcooobnaocbdjaaGreatDoorPMatTr -/
section
set_option linter.unusedVariables false
namespace Go.Proofs.YtcooobnaocbdjaaGreatDoor
open Go.RowKit
end Go.Proofs.YtcooobnaocbdjaaGreatDoor

end

/-! YtcooobnaocbdjaaGreatDoorPMatK -/
section
set_option maxRecDepth 100000
set_option maxHeartbeats 6400000
set_option linter.unusedVariables false
namespace Go.Proofs.YtcooobnaocbdjaaGreatDoor
open Go.RowKit Go.Shelf
attribute [local go_sem] Oper.semAt_some
theorem Row.cap {base:Nat} {w:World} {v:Value} {zs:List Int} {a:Option Addr} {n c:Nat} (h:Row base w v zs) (e:v = .slice a n c):c<=9223372036854775807:=by
 rcases h.2 with ⟨e1,_⟩ | ⟨g,cap,cur,e1,_,_,_,hm,_⟩
 ·rw [e1] at e
  cases e
  omega
 ·rw [e1] at e
  cases e
  unfold maxLen at hm
  omega
theorem Qop {n₀ S g B6 B7 B1 B2:Nat} {W W1 w2:World} {o:Obj} {cs:Array Value} {t:TypeId} {fr:Nat × Nat} (v u:Value)
  (hb:Below W.heap.size W W1) (hgr:(W1.alloc o).grownBy w2 (some g)) (hcs:W1.heap[g]? = some (.cells cs t fr)) (h0:n₀<=W.heap.size) (hg:n₀<=g) (h6:n₀<=B6) (h7:n₀<=B7)
  (k1:B1<W.heap.size) (k2:B2<W.heap.size) (d1:B1≠g/\B1≠B6/\B1≠B7) (d2:B2≠g/\B2≠B6/\B2≠B7) :
  KeepsFrom S W ((w2.setCell ⟨B6,0,none⟩ v).setCell ⟨B7,0,none⟩ u)/\Ql9 n₀ B1 B2 W ((w2.setCell ⟨B6,0,none⟩ v).setCell ⟨B7,0,none⟩ u):=by
 have hs:=hb.size
 have hlt:=(Array.getElem?_eq_some_iff.1 hcs).1
 have hold : ∀ k,k<W.heap.size->k≠g->k≠B6->k≠B7->((w2.setCell ⟨B6,0,none⟩ v).setCell ⟨B7,0,none⟩ u).heap[k]? = W.heap[k]?:=fun k hk e1 e2 e3=>by
  rw [Below.heap_setCell _ _ _ _ e3,Below.heap_setCell _ _ _ _ e2,hgr.block k (by simp;omega) (fun e=>e1 (by cases e;rfl)),Below.heap_alloc _ _ _ (by omega)]
  exact hb.block k hk
 refine ⟨?_,?_,hold B1 k1 d1.1 d1.2.1 d1.2.2,hold B2 k2 d2.1 d2.2.1 d2.2.2⟩
 ·have a1:KeepsOthers W1 ((w2.setCell ⟨B6,0,none⟩ v).setCell ⟨B7,0,none⟩ u):=(((KeepsOthers.alloc W1 o).trans (KeepsOthers.of_grownBy hgr fun j o' ej hj=>by
   cases ej
   rw [Below.heap_alloc _ _ _ hlt,hcs] at hj
   cases hj
   rfl)).trans (KeepsOthers.setCell _ _ _)).trans (KeepsOthers.setCell _ _ _)
  exact ⟨Nat.le_trans hs a1.size,fun k o' _ hk ho=>a1.same k o' ((hb.block k (Array.getElem?_eq_some_iff.1 hk).1).trans hk) ho⟩
 ·exact ((((hb.mono h0).alloc (by omega) o).grown hgr (by simp;omega) (fun k e=>by cases e;exact hg)).setCell h6 v).setCell h7 u
theorem Qmx {W:World} {B B':Nat} {t:TypeId} {v:Value} (h:Boxed W B t v) (hne:B≠B') (x y:Value):Boxed ((W.setCell ⟨B,0,none⟩ x).setCell ⟨B',0,none⟩ y) B t x:=(h.set x).other hne y
theorem Qkw {W:World} {B B':Nat} {t:TypeId} {v:Value} (h:Boxed W B t v) (hne:B≠B') (x y:Value):Boxed ((W.setCell ⟨B',0,none⟩ x).setCell ⟨B,0,none⟩ y) B t y:=(h.other hne x).set y
def Qoq (m q:Nat) (xs ys:List Int) (g B6 B7 S:Nat) (w1:World) (pre:List (Fin m)) (W:World):Prop:=
 ((∃ v,Boxed W B6 28 v/\W.ownsRow g 3 1 v pre.length (Qp (pre.map fun x=>dotN (J4 q xs x.1) ys))/\v = .slice (some ⟨g,0,none⟩) pre.length m)/\Boxed W B7 4 (.bool (pre.any fun x=>dotB (J4 q xs x.1) ys))/\S<=W.heap.size)/\Below g w1 W
theorem Qmy (m q:Nat) (xs ys:List Int) (g B6 B7:Nat) (w1:World) (S:Nat) (h:g<=w1.heap.size) (hS:g<=S):OwnFrom S (Qoq m q xs ys g B6 B7 S w1):=by
 have h1:=holdsRow_own g B6 28 3 1 (fun s:List (Fin m)=>s.length) (fun s=>Qp (s.map fun x=>dotN (J4 q xs x.1) ys)) (fun s v=>v = .slice (some ⟨g,0,none⟩) s.length m)
 have h2:=boxed_own B7 4 (fun s:List (Fin m)=>Value.bool (s.any fun x=>dotB (J4 q xs x.1) ys))
 exact OwnFrom.and (Own.from (fun s A B row hs hg hr=>⟨h1 s A B row hs.1 hg hr,h2 s A B row hs.2.1 hg hr,Nat.le_trans hs.2.2 hg.size⟩) S) (ownFrom_below h hS)
theorem Qgd (w:World) (r c:Int) (a:Option Addr) (n cp:Nat) (xs:List Int) (a2:Option Addr) (n2 c2:Nat) (ys:List Int) (h1:IntsIn w.heap.size w a n xs) (hcp:n<=cp) (hcap:cp<=9223372036854775807) (h2:IntsIn w.heap.size w a2 n2 ys) (hg:Z0 w) :
  Calls Tryz.prog 344 #[.agg #[.int .i64 r,.int .i64 c,.slice a n cp],.slice a2 n2 c2] w (RowB w (mvN r c xs ys) (mvB r c xs ys)):=by
 refine (callsIn_wide (n:=6)).1 ?_
 have hlt:=hg.lt
 have l1:=h1.len
 have l2:=h2.len
 have hroom:=h1.room
 have hal:Below w.heap.size w ((w.alloc (.cells #[.int .i64 r,.int .i64 c,.slice a n cp] 276 (0,0))).alloc (.cells #[.slice a2 n2 c2] 28 (0,0))):=((Below.refl _ _).alloc (Nat.le_refl _) _).alloc (by simp) _
 have hb0:((w.alloc (.cells #[.int .i64 r,.int .i64 c,.slice a n cp] 276 (0,0))).alloc (.cells #[.slice a2 n2 c2] 28 (0,0))).heap[w.heap.size]? = some (.cells #[.int .i64 r,.int .i64 c,.slice a n cp] 276 (0,0)):=by
  rw [Below.heap_alloc _ _ _ (by simp)]
  exact heap_alloc_new w _
 have hb1:Boxed ((w.alloc (.cells #[.int .i64 r,.int .i64 c,.slice a n cp] 276 (0,0))).alloc (.cells #[.slice a2 n2 c2] 28 (0,0))) (w.heap.size+1) 28 (.slice a2 n2 c2):=by
  have:=Boxed.new (w.alloc (.cells #[.int .i64 r,.int .i64 c,.slice a n cp] 276 (0,0))) 28 (.slice a2 n2 c2)
  rwa [World.size_alloc] at this
 have hs1:((w.alloc (.cells #[.int .i64 r,.int .i64 c,.slice a n cp] 276 (0,0))).alloc (.cells #[.slice a2 n2 c2] 28 (0,0))).heap.size=w.heap.size+2:=by simp
 have HM:=fun (w:World) (h:IntsIn w.heap.size w a n xs)=>Qhp w r c a n cp xs h hcp hcap
 have HV:=fun (w:World) (h:IntsIn w.heap.size w a2 n2 ys)=>Qv w a2 n2 c2 ys h
 have HX:=Lib.hid (h1.below hal (Nat.le_refl _))
 have HY:=Lib.hid (h2.below hal (Nat.le_refl _))
 have HE:=Lib.hid (hg.below hlt hal)
 have HAL:=Lib.hid hal
 have HB0:=Lib.hid hb0
 have HB1:=Lib.hid hb1
 have L1:=Lib.hid l1
 have L2:=Lib.hid l2
 obtain ⟨o,ho⟩ : ∃ o,mvOk r c xs ys=o:=⟨_,rfl⟩
 unfold mvN mvB
 rw [ho]
 refine callsIn_of_wp_marks Tryz.func344 rfl trivial ?_ rfl
 simp only [Tryz.ntmps344,List.size_toArray,List.length_cons,List.length_nil,Nat.reduceAdd,Nat.reduceSub,Array.replicate_succ,Array.replicate_zero,List.push_toArray,List.append_toArray,List.nil_append,List.cons_append]
 cases hm:Jv r c xs with
 | false =>
  have hof:o=false:=by rw [<- ho];unfold mvOk;rw [hm];rfl
  subst hof
  rw [hm] at HM
  replace HM:=Lib.hid HM
  clear hm ho h1 h2 hg hal hb0 hb1 l1 l2 HV
  gi_wp2
  generalize (w.alloc (.cells #[.int .i64 r,.int .i64 c,.slice a n cp] 276 (0,0))).alloc (.cells #[.slice a2 n2 c2] 28 (0,0))=wa at hs1 HX HY HE HAL HB0 HB1 |-
  refine ⟨trivial,?_⟩
  refine (callsIn_wide.2 (HM.out _ (HX.out.le (by omega)))).mono ?_
  rintro e w1 ⟨rfl,hb⟩
  have HB:=Lib.hid (HAL.out.trans (hb.mono (by omega)))
  clear hb
  gi_wp2
  refine ⟨trivial,?_⟩
  gi_wp2
  exact Qfi rfl (results_tmp2 rfl _ _ _) ⟨_,rfl,Row.nil _ _,HB.out⟩
 | true =>
  cases hv:Qm ys with
  | false =>
   have hof:o=false:=by rw [<- ho];unfold mvOk;rw [hm,hv];rfl
   subst hof
   rw [hm] at HM
   replace HM:=Lib.hid HM
   rw [hv] at HV
   replace HV:=Lib.hid HV
   clear hm hv ho h1 h2 hg hal hb0 hb1 l1 l2
   gi_wp2
   generalize (w.alloc (.cells #[.int .i64 r,.int .i64 c,.slice a n cp] 276 (0,0))).alloc (.cells #[.slice a2 n2 c2] 28 (0,0))=wa at hs1 HX HY HE HAL HB0 HB1 |-
   refine ⟨trivial,?_⟩
   refine (callsIn_wide.2 (HM.out _ (HX.out.le (by omega)))).mono ?_
   rintro e w1 ⟨rfl,hb⟩
   have hsz:=hb.size
   have HB:=Lib.hid (HAL.out.trans (hb.mono (by omega)))
   have HY1:=Lib.hid (HY.out.below hb (by omega))
   have bX:Boxed w1 (w.heap.size+1) 28 (.slice a2 n2 c2):=(hb.block _ (by omega)).trans HB1.out
   have cX:=bX.cell
   clear hb bX
   gi_wp2
   refine ⟨trivial,?_⟩
   refine (callsIn_wide.2 (HV.out _ (HY1.out.le (by omega)))).mono ?_
   rintro e w2 ⟨rfl,rfl⟩
   gi_wp2
   exact Qfi rfl (results_tmp2 rfl _ _ _) ⟨_,rfl,Row.nil _ _,HB.out⟩
  | true =>
   rw [hm] at HM
   replace HM:=Lib.hid HM
   rw [hv] at HV
   replace HV:=Lib.hid HV
   by_cases hn:(n2:Int)=c
   ·have hot:o=true:=by rw [<- ho];unfold mvOk;rw [hm,hv,l2,decide_eq_true hn];rfl
    subst hot
    obtain ⟨m,q,rfl,rfl,hm6,hq6,hnq,-⟩:=Qd3 hm
    rw [l1] at hnq
    have hq2:n2=q:=by exact_mod_cast hn
    subst hq2
    have HNQ:=Lib.hid hnq
    have hn1:0<n:=by
     have:=Qo9 (show 0<m by omega) (show 0<n2 by omega)
     omega
    obtain ⟨b,p,ha,hbB,-⟩:=HX.out.cells 0 hn1
    subst ha
    simp only [Int.toNat_natCast,if_true,Bool.true_and]
    clear hm hv ho h1 h2 hg hal hb0 hb1 l1 l2 hn hnq
    gi_wp2
    generalize (w.alloc (.cells #[.int .i64 m,.int .i64 n2,.slice (some ⟨b,p,none⟩) n cp] 276 (0,0))).alloc (.cells #[.slice a2 n2 c2] 28 (0,0))=wa at hs1 HX HY HE HAL HB0 HB1 |-
    refine ⟨trivial,?_⟩
    refine (callsIn_wide.2 (HM.out _ (HX.out.le (by omega)))).mono ?_
    rintro e w1 ⟨rfl,hb⟩
    have hsz:=hb.size
    have HAL1:=Lib.hid (HAL.out.trans (hb.mono (by omega)))
    have HX1:=Lib.hid (HX.out.below hb (by omega))
    have HY1:=Lib.hid (HY.out.below hb (by omega))
    have HE1:=Lib.hid (HE.out.below (by omega) hb)
    have hbM:=(hb.block w.heap.size (by omega)).trans HB0.out
    have bX:Boxed w1 (w.heap.size+1) 28 (.slice a2 n2 c2):=(hb.block _ (by omega)).trans HB1.out
    have cX:=bX.cell
    obtain ⟨⟨d0,d1,d2⟩,-⟩:=Qdj hbM
    have HBM:=Lib.hid hbM
    have HBX:=Lib.hid bX
    clear hb bX hbM HX HY HE HAL HB0 HB1
    gi_wp2
    refine ⟨trivial,?_⟩
    refine (callsIn_wide.2 (HV.out _ (HY1.out.le (by omega)))).mono ?_
    rintro e w2 ⟨rfl,rfl⟩
    obtain ⟨i0,hi,hz0,hz1,hz2⟩:=info_parts Tryz.infoI64
    gi_upto_region 4 with (gi_at_make;refine wpListIn_make_own _ rfl _ _ 28 rfl w1.heap.size 3 i0 (.int .i64 0) 1 Tryz.underlying28 hi hz0 hz1 .i64 .i64 m m rfl rfl rfl (by rw [hz2];omega) (by unfold maxLen;omega) (Nat.le_refl _) ?_;intro wm hownm hgrm;have HOM:=Lib.hid hownm;have HGM:=Lib.hid hgrm;clear hownm hgrm)
    have hwm:Below w1.heap.size w1 wm:=(Below.refl _ _).grown HGM.out (Nat.le_refl _) (fun k e=>by cases e)
    have hgm:w1.heap.size<wm.heap.size:=(HOM.out.lt _ rfl).2
    have hb3:Below wm.heap.size wm ((wm.alloc (.cells #[.slice (some ⟨w1.heap.size,0,none⟩) 0 m] 28 (0,0))).alloc (.cells #[.bool false] 4 (0,0))):=((Below.refl _ _).alloc (Nat.le_refl _) _).alloc (by simp) _
    have b6:Boxed ((wm.alloc (.cells #[.slice (some ⟨w1.heap.size,0,none⟩) 0 m] 28 (0,0))).alloc (.cells #[.bool false] 4 (0,0))) wm.heap.size 28 (.slice (some ⟨w1.heap.size,0,none⟩) 0 m):=(Boxed.new wm 28 _).alloc _
    have b7:Boxed ((wm.alloc (.cells #[.slice (some ⟨w1.heap.size,0,none⟩) 0 m] 28 (0,0))).alloc (.cells #[.bool false] 4 (0,0))) (wm.heap.size+1) 4 (.bool false):=by
     have:=Boxed.new (wm.alloc (.cells #[.slice (some ⟨w1.heap.size,0,none⟩) 0 m] 28 (0,0))) 4 (.bool false)
     rwa [World.size_alloc] at this
    have hs3:((wm.alloc (.cells #[.slice (some ⟨w1.heap.size,0,none⟩) 0 m] 28 (0,0))).alloc (.cells #[.bool false] 4 (0,0))).heap.size=wm.heap.size+2:=by simp
    generalize (wm.alloc (.cells #[.slice (some ⟨w1.heap.size,0,none⟩) 0 m] 28 (0,0))).alloc (.cells #[.bool false] 4 (0,0))=w3 at hb3 b6 b7 hs3 |-
    have hr3:Row w1.heap.size w3 (.slice (some ⟨w1.heap.size,0,none⟩) 0 m) []:=(show Row w1.heap.size wm (.slice (some ⟨w1.heap.size,0,none⟩) 0 m) [] from HOM.out).below hb3
    have hw3:Below w1.heap.size w1 w3:=hwm.trans (hb3.mono (by omega))
    obtain ⟨⟨d0,d1,d2⟩,-⟩:=Qdj ((hw3.block w.heap.size (by omega)).trans HBM.out)
    have B6:=Lib.hid b6
    have B7:=Lib.hid b7
    have HR3:=Lib.hid hr3
    have HW3:=Lib.hid hw3
    clear hb3 b6 b7 hr3 hw3 hwm HOM HGM
    gi_wp2
    refine ⟨trivial,?_⟩
    refine (Qpp _ _ _ _ _ (by omega) _).mono ?_
    rintro e w' ⟨rfl,rfl⟩
    have hB2:Below w3.heap.size w3 ((w3.alloc (.cells #[.slice (some ⟨b,p,none⟩) n cp] 28 (0,0))).alloc (.cells #[.int .i64 n2] 3 (0,0))):=((Below.refl _ _).alloc (Nat.le_refl _) _).alloc (by simp) _
    have bS:Boxed ((w3.alloc (.cells #[.slice (some ⟨b,p,none⟩) n cp] 28 (0,0))).alloc (.cells #[.int .i64 n2] 3 (0,0))) (wm.heap.size+2) 28 (.slice (some ⟨b,p,none⟩) n cp):=by rw [<- hs3];exact (Boxed.new w3 28 _).alloc _
    have bN:Boxed ((w3.alloc (.cells #[.slice (some ⟨b,p,none⟩) n cp] 28 (0,0))).alloc (.cells #[.int .i64 n2] 3 (0,0))) (wm.heap.size+2+1) 3 (.int .i64 n2):=by
     have:=Boxed.new (w3.alloc (.cells #[.slice (some ⟨b,p,none⟩) n cp] 28 (0,0))) 3 (.int .i64 n2)
     rwa [World.size_alloc,hs3] at this
    have hs2:((w3.alloc (.cells #[.slice (some ⟨b,p,none⟩) n cp] 28 (0,0))).alloc (.cells #[.int .i64 n2] 3 (0,0))).heap.size=wm.heap.size+4:=by simp;omega
    have BS:=Lib.hid bS
    have BN:=Lib.hid bN
    have HB2:=Lib.hid hB2
    clear bS bN hB2 d0 d1 d2
    gi_wp2
    generalize (w3.alloc (.cells #[.slice (some ⟨b,p,none⟩) n cp] 28 (0,0))).alloc (.cells #[.int .i64 n2] 3 (0,0))=W0 at BS BN HB2 hs2 |-
    have hw0:Below w1.heap.size w1 W0:=HW3.out.trans (HB2.out.mono (by omega))
    have HW0:=Lib.hid hw0
    clear hw0
    have hI0:Qoq m n2 xs ys w1.heap.size wm.heap.size (wm.heap.size+1) W0.heap.size w1 [] W0:=⟨⟨⟨_,(HB2.out.block _ (by omega)).trans B6.out,HR3.out.below HB2.out,rfl⟩,(HB2.out.block _ (by omega)).trans B7.out,Nat.le_refl _⟩,HW0.out⟩
    refine wpIn_rangeFunc_ownG rfl (by omega) (gf:=351) (lb:=#[.pointer (some ⟨wm.heap.size+2,0,none⟩),.pointer (some ⟨wm.heap.size+2+1,0,none⟩)]) rfl trivial (enters_of Tryz.func351 (by kernel_rfl) rfl)
     (Qj9 _ (by omega) (wm.heap.size+2) (wm.heap.size+2+1) b p m n2 n cp HNQ.out hm6.2 hq6.1 hq6.2 hcp hcap (Ql9 w1.heap.size (wm.heap.size+2) (wm.heap.size+2+1)) (fun X Y h=>h.2) W0 _ _ BS.out BN.out)
     Qq4 (Qq5 (by omega) (by omega) (by omega)) (Below.refl _ _) (fun _=>rfl)
     (Qoq m n2 xs ys w1.heap.size wm.heap.size (wm.heap.size+1) W0.heap.size w1)
     (fun _ _ _=>False)
     (Qmy m n2 xs ys w1.heap.size wm.heap.size (wm.heap.size+1) w1 W0.heap.size (Nat.le_refl _) (by omega))
     (fun _ _ _ _ _ hs _ _=>hs)
     hI0 ?a1 ?assign ?body ?done ?stop
    case assign =>
     intro l x W K hK
     simp only [Qk5]
     gi_wp2
     exact hK
    case body =>
     rintro l pre x W ⟨⟨⟨v,b6,hrow,rfl⟩,b7,hSW⟩,hB⟩ hlen
     have hsW:=hB.size
     have h6l:=b6.lt
     have h7l:=b7.lt
     have bX:Boxed W (w.heap.size+1) 28 (.slice a2 n2 c2):=(hB.block _ (by omega)).trans HBX.out
     have hX:IntsIn w.heap.size W (some ⟨b,p+x.1*n2,none⟩) n2 (J4 n2 xs x.1):=Qr5 (HX1.out.below hB (by omega)) HNQ.out x.2
     have hY:IntsIn w.heap.size W a2 n2 ys:=HY1.out.below hB (by omega)
     have hT:=Qc3 W (some ⟨b,p+x.1*n2,none⟩) n2 n2 (J4 n2 xs x.1) a2 n2 c2 ys (hX.le (by omega)) (hY.le (by omega)) (HE1.out.below (by omega) hB)
     obtain ⟨dn,hdn⟩ : ∃ dn,dotN (J4 n2 xs x.1) ys=dn:=⟨_,rfl⟩
     obtain ⟨db,hdb⟩ : ∃ db,dotB (J4 n2 xs x.1) ys=db:=⟨_,rfl⟩
     obtain ⟨fl,hfl⟩ : ∃ fl,(pre.any fun x=>dotB (J4 n2 xs x.1) ys)=fl:=⟨_,rfl⟩
     obtain ⟨zs,hzs⟩ : ∃ zs,(pre.map fun x=>dotN (J4 n2 xs x.1) ys)=zs:=⟨_,rfl⟩
     obtain ⟨k,hk⟩ : ∃ k,pre.length=k:=⟨_,rfl⟩
     have e1:((pre ++ [x]).any fun x=>dotB (J4 n2 xs x.1) ys)=(fl || db):=by rw [List.any_append,hfl];simp [hdb]
     have e2:((pre ++ [x]).map fun x=>dotN (J4 n2 xs x.1) ys)=zs ++ [dn]:=by rw [List.map_append,hzs];simp [hdn]
     have e3:(pre ++ [x]).length=k+1:=by rw [List.length_append,hk];rfl
     rw [hdn,hdb] at hT
     rw [hfl] at b7
     rw [hzs,hk] at hrow
     rw [hk] at b6 hlen
     have HT:=Lib.hid hT
     have HB:=Lib.hid hB
     have G6:=Lib.hid b6
     have G7:=Lib.hid b7
     have HR:=Lib.hid hrow
     have E1:=Lib.hid e1
     have E2:=Lib.hid e2
     have E3:=Lib.hid e3
     have cX:=bX.cell
     clear hT hB b6 b7 hrow e1 e2 e3 hdn hdb hfl hzs hk hX hY bX
     gi_wp2
     refine ⟨trivial,?_⟩
     refine (CallsIn.inRound l (callsIn_wide.2 HT.out)).mono ?_
     rintro e W1 ⟨rfl,hb⟩
     have hs1':=hb.size
     have b6:Boxed W1 wm.heap.size 28 (.slice (some ⟨w1.heap.size,0,none⟩) k m):=(hb.block _ h6l).trans G6.out
     have b7:Boxed W1 (wm.heap.size+1) 4 (.bool fl):=(hb.block _ h7l).trans G7.out
     have hr1:W1.ownsRow w1.heap.size 3 1 (.slice (some ⟨w1.heap.size,0,none⟩) k m) k (Qp zs):=World.ownsRow.kept HR.out (row:=none) ⟨hb.os,hb.tape,hb.output,hb.size,fun b hb' _=>hb.block b hb'⟩ (.inr (by simp [Value.ownBlock]))
     obtain ⟨cs,hcs⟩ : ∃ cs,W1.heap[w1.heap.size]? = some (.cells cs 3 (0,0)):=by
      rcases hr1.2 with ⟨e,_⟩ | ⟨g,_,cur,e,_,hgg,_⟩
      ·cases e
      ·cases e
       exact ⟨cur,hgg⟩
     have hgl:w1.heap.size<W1.heap.size:=by omega
     have G61:=Lib.hid b6
     have G71:=Lib.hid b7
     have HR1:=Lib.hid hr1
     have HBB:=Lib.hid hb
     have HCS:=Lib.hid hcs
     have c6:=b6.cell
     clear hb b6 b7 hr1 hcs cX
     cases fl
     all_goals
      gi_wp2_with (gi_at_builtin;refine wpListIn_append_fits _ rfl _ _ 28 rfl w1.heap.size 3 i0 1 Tryz.underlying28 hi hz1 w1.heap.size k m _ rfl (HR1.out.alloc _) ⟨W1.heap.size,0,none⟩ 1 1 (Qp [dn]) rfl rfl (Z9 _ _ _) (Jf _) (by omega) ?_;intro w4 hown4 hgr4;have b6':=(G61.out.alloc (.cells #[.int .i64 dn] 3 (0,0))).kept hgr4 (fun e=>by have:=Option.some.inj e;omega);have b7':=(G71.out.alloc (.cells #[.int .i64 dn] 3 (0,0))).kept hgr4 (fun e=>by have:=Option.some.inj e;omega);have c6':=b6'.cell;have f6':=b6'.frozen;have c7':=b7'.cell;have f7':=b7'.frozen;have HO4:=Lib.hid hown4;have HG4:=Lib.hid hgr4;have B64:=Lib.hid b6';have B74:=Lib.hid b7';clear hown4 hgr4 b6' b7' c6)
      have q:=fun u:Value=>Qop (S:=W0.heap.size) (n₀:=w1.heap.size) (B1:=wm.heap.size+2) (B2:=wm.heap.size+2+1) (B6:=wm.heap.size) (B7:=wm.heap.size+1) (.slice (some ⟨w1.heap.size,0,none⟩) (k+1) m) u HBB.out HG4.out HCS.out hsW (Nat.le_refl _) (by omega) (by omega) (by omega) (by omega) ⟨by omega,by omega,by omega⟩ ⟨by omega,by omega,by omega⟩
      refine ⟨(q _).1,(q _).2,⟨⟨_,Qmx B64.out (Nat.ne_of_lt (Nat.lt_succ_self _)) _ _,?_,by rw [E3.out]⟩,?_,Nat.le_trans hSW (q _).1.size⟩,HB.out.trans (q _).2.1⟩
      ·rw [E2.out,E3.out,Qau]
       exact (World.ownsRow.kept HO4.out (grownBy_setCell' _ _ _) (.inr (fun e=>by have e':w1.heap.size=wm.heap.size:=Option.some.inj e;omega))).kept (grownBy_setCell' _ _ _) (.inr (fun e=>by have e':w1.heap.size=wm.heap.size+1:=Option.some.inj e;omega))
      ·rw [E1.out]
       exact (Qkw B74.out (Nat.ne_of_gt (Nat.lt_succ_self _)) _ _)
    case done =>
     rintro D zs W hD hS ⟨⟨⟨v,b6,hrow,rfl⟩,b7,hSW⟩,hB⟩ hK
     have c6:=b6.cell
     have c7:=b7.cell
     gi_wp2
     gi_quiet (fail)
     gi_wp2
     have hrow':Row w1.heap.size (W.drewN nq) (.slice (some ⟨w1.heap.size,0,none⟩) zs.length m) (zs.map fun x=>dotN (J4 n2 xs x.1) ys):=by
      unfold Row
      rw [List.length_map]
      exact hrow
     have hK':(W.drewN nq).heap[D]? = some (.deferred (some [])):=hK
     have hB':Below w1.heap.size w1 (W.drewN nq):=hB.trans ⟨rfl,rfl,rfl,Nat.le_refl _,fun _ _=>rfl⟩
     refine Qma rfl hK' (results_tmp2 rfl _ _ _) ⟨.slice (some ⟨w1.heap.size,0,none⟩) zs.length m,?_,?_,Qny (HAL1.out.trans (hB'.mono (by omega))) (by omega) hK' _⟩
     ·rw [<- Qdd.any hS fun i=>dotB (J4 n2 xs i) ys]
      rfl
     ·rw [<- Qdd.map hS fun i=>dotN (J4 n2 xs i) ys]
      exact ((show Row _ _ _ _ from ownsRow_putObj hrow' _ hK' rfl):Row w1.heap.size _ _ _).le (by omega)
    case stop =>
     rintro D c pre W _ _ h _
     exact h.elim
   ·have hof:o=false:=by rw [<- ho];unfold mvOk;rw [hm,hv,l2,decide_eq_false hn];rfl
    subst hof
    have hne:((n2:Int) == c)=false:=by simpa using hn
    clear hm hv ho h1 h2 hg hal hb0 hb1 l1 l2 hn
    gi_wp2
    generalize (w.alloc (.cells #[.int .i64 r,.int .i64 c,.slice a n cp] 276 (0,0))).alloc (.cells #[.slice a2 n2 c2] 28 (0,0))=wa at hs1 HX HY HE HAL HB0 HB1 |-
    refine ⟨trivial,?_⟩
    refine (callsIn_wide.2 (HM.out _ (HX.out.le (by omega)))).mono ?_
    rintro e w1 ⟨rfl,hb⟩
    have hsz:=hb.size
    have HB:=Lib.hid (HAL.out.trans (hb.mono (by omega)))
    have HY1:=Lib.hid (HY.out.below hb (by omega))
    have bX:Boxed w1 (w.heap.size+1) 28 (.slice a2 n2 c2):=(hb.block _ (by omega)).trans HB1.out
    have cX:=bX.cell
    obtain ⟨⟨d0,d1,d2⟩,-⟩:=Qdj ((hb.block w.heap.size (by omega)).trans HB0.out)
    clear hb bX
    gi_wp2
    refine ⟨trivial,?_⟩
    refine (callsIn_wide.2 (HV.out _ (HY1.out.le (by omega)))).mono ?_
    rintro e w2 ⟨rfl,rfl⟩
    gi_wp2
    exact Qfi rfl (results_tmp2 rfl _ _ _) ⟨_,rfl,Row.nil _ _,HB.out⟩
end Go.Proofs.YtcooobnaocbdjaaGreatDoor

end

/-! YtcooobnaocbdjaaGreatDoorPOpG -/
section
set_option maxRecDepth 100000
set_option linter.unusedVariables false
namespace Go.Proofs.YtcooobnaocbdjaaGreatDoor
open Go.RowKit
theorem Qc9 (w:World) (k i o:Int) (a:Option Addr) (n cp:Nat) (ps:List Int) (a2:Option Addr) (n2 c4:Nat) (xs:List Int) (h1:IntsIn w.heap.size w a n ps) (hcp:n<=cp) (hcap:cp<=9223372036854775807) (h2:IntsIn w.heap.size w a2 n2 xs) (hg:Z0 w) :
  Calls Tryz.prog 342 #[.agg #[.int .i64 o,.int .i64 i,.slice a n cp],.slice a2 n2 c4] w (RowB w (mvN o i ps xs) (mvB o i ps xs)):=by
 have hlt:=hg.lt
 have hal:Below w.heap.size w (w.alloc (.cells #[.int .i64 o,.int .i64 i,.slice a n cp] 302 (0,0))):=(Below.refl _ _).alloc (Nat.le_refl _) _
 have HC:=Lib.hid (Qgd _ o i a n cp ps a2 n2 c4 xs ((h1.below hal (Nat.le_refl _)).le hal.size) hcp hcap ((h2.below hal (Nat.le_refl _)).le hal.size) (hg.below hlt hal))
 have HA:=Lib.hid hal
 clear h1 h2 hg hal hlt
 go_enter Tryz.func342,Tryz.ntmps342
 go_wp2_with fail
 refine HC.out.mono ?_
 rintro e w1 ⟨v,rfl,hr,hb⟩
 go_wp2_with fail
 go_ret2
 exact ⟨v,rfl,hr.le HA.out.size,HA.out.trans (hb.mono HA.out.size)⟩
theorem Qib (w:World) (k i o:Int) (a:Option Addr) (n cp:Nat) (ps:List Int) (a2:Option Addr) (n2 c4:Nat) (xs:List Int) (h1:IntsIn w.heap.size w a n ps) (hcp:n<=cp) (hcap:cp<=9223372036854775807) (h2:IntsIn w.heap.size w a2 n2 xs) (hg:Z0 w) :
  Calls Tryz.prog 353 #[.agg #[.slice a n cp],.slice a2 n2 c4] w (RowB w (rowP addN xs ps) (Qbi addB xs ps)):=by
 have hlt:=hg.lt
 have hal:Below w.heap.size w (w.alloc (.cells #[.slice a n cp] 304 (0,0))):=(Below.refl _ _).alloc (Nat.le_refl _) _
 have HC:=Lib.hid (Qc2 _ a2 n2 c4 xs a n cp ps ((h2.below hal (Nat.le_refl _)).le hal.size) ((h1.below hal (Nat.le_refl _)).le hal.size) (hg.below hlt hal))
 have HA:=Lib.hid hal
 clear h1 h2 hg hal hlt
 go_enter Tryz.func353,Tryz.ntmps353
 go_wp2_with fail
 refine HC.out.mono ?_
 rintro e w1 ⟨v,rfl,hr,hb⟩
 go_wp2_with fail
 go_ret2
 exact ⟨v,rfl,hr.le HA.out.size,HA.out.trans (hb.mono HA.out.size)⟩
theorem Qic (w:World) (k i o:Int) (a:Option Addr) (n cp:Nat) (ps:List Int) (a2:Option Addr) (n2 c4:Nat) (xs:List Int) (h1:IntsIn w.heap.size w a n ps) (hcp:n<=cp) (hcap:cp<=9223372036854775807) (h2:IntsIn w.heap.size w a2 n2 xs) (hg:Z0 w) (z:Array Value) (hz:z=#[]) :
  Calls Tryz.prog 356 #[.agg z,.slice a2 n2 c4] w (RowB w (rowP (fun x _=>Qaq x) xs xs) false):=by
 subst hz
 have hlt:=hg.lt
 have hal:Below w.heap.size w (w.alloc (.cells #[] 306 (0,0))):=(Below.refl _ _).alloc (Nat.le_refl _) _
 have HC:=Lib.hid (Qfd _ a2 n2 c4 xs ((h2.below hal (Nat.le_refl _)).le hal.size) (hg.below hlt hal))
 have HA:=Lib.hid hal
 clear h1 h2 hg hal hlt
 go_enter Tryz.func356,Tryz.ntmps356
 go_wp2_with fail
 refine HC.out.mono ?_
 rintro e w1 ⟨v,rfl,hr,hb⟩
 go_wp2_with fail
 go_ret2
 exact ⟨_,rfl,hr.le HA.out.size,HA.out.trans (hb.mono HA.out.size)⟩
theorem Qge (w:World) (k i o:Int) (a:Option Addr) (n cp:Nat) (ps:List Int) (a2:Option Addr) (n2 c4:Nat) (xs:List Int) (h1:IntsIn w.heap.size w a n ps) (hcp:n<=cp) (hcap:cp<=9223372036854775807) (h2:IntsIn w.heap.size w a2 n2 xs) (hg:Z0 w) (hn:1<=n) :
  Calls Tryz.prog 363 #[.agg #[.slice a n cp],.slice a2 n2 c4] w (RowB w (Qas (ps.getD 0 0) xs) (Qbr (ps.getD 0 0) xs)):=by
 have hlt:=hg.lt
 have hal:Below w.heap.size w (w.alloc (.cells #[.slice a n cp] 307 (0,0))):=(Below.refl _ _).alloc (Nat.le_refl _) _
 obtain ⟨P,hP⟩ : ∃ P,ps.getD 0 0=P:=⟨_,rfl⟩
 obtain ⟨b,p,rfl,hbB,hc⟩:=h1.cells 0 (by omega)
 rw [hP] at hc |-
 have hc':=(hal.cell (p:=⟨b,p+0,none⟩) hbB).trans hc
 simp only [Nat.add_zero] at hc'
 have HC:=Lib.hid (Qeq P _ a2 n2 c4 xs ((h2.below hal (Nat.le_refl _)).le hal.size) (hg.below hlt hal))
 have HA:=Lib.hid hal
 have hn0:(0:Int)<(n:Int):=by omega
 have hn1:0<n:=by omega
 clear h1 h2 hg hal hlt hP hc
 go_enter Tryz.func363,Tryz.ntmps363
 go_wp2_with fail
 refine HC.out.mono ?_
 rintro e w1 ⟨v,rfl,hr,hb⟩
 go_wp2_with fail
 go_ret2
 exact ⟨v,rfl,hr.le HA.out.size,HA.out.trans (hb.mono HA.out.size)⟩
theorem Qjp (w:World) (k i o:Int) (a:Option Addr) (n cp:Nat) (ps:List Int) (a2:Option Addr) (n2 c4:Nat) (xs:List Int) (h1:IntsIn w.heap.size w a n ps) (hcp:n<=cp) (hcap:cp<=9223372036854775807) (h2:IntsIn w.heap.size w a2 n2 xs) (hg:Z0 w) :
  Calls Tryz.prog 365 #[.agg #[.int .i64 o,.int .i64 i,.slice a n cp],.slice a2 n2 c4] w (RowB w (rowP addN xs (mvN o i ps xs)) (mvB o i ps xs || Qbi addB xs (mvN o i ps xs))):=by
 have hlt:=hg.lt
 have hal:Below w.heap.size w (w.alloc (.cells #[.int .i64 o,.int .i64 i,.slice a n cp] 309 (0,0))):=(Below.refl _ _).alloc (Nat.le_refl _) _
 have h2':=(h2.below hal (Nat.le_refl _)).le hal.size
 have hg':=hg.below hlt hal
 have HC:=Lib.hid (Qc9 _ k i o a n cp ps a2 n2 c4 xs ((h1.below hal (Nat.le_refl _)).le hal.size) hcp hcap h2' hg')
 have HA:=Lib.hid hal
 obtain ⟨Z,hZ⟩ : ∃ Z,mvN o i ps xs=Z:=⟨_,rfl⟩
 obtain ⟨q,hq⟩ : ∃ q,mvB o i ps xs=q:=⟨_,rfl⟩
 have hzl:Z.length<=6:=by rw [<- hZ];exact Qgr _ _ _ _
 rw [hZ,hq] at HC |-
 have HG:=Lib.hid hg'
 have H2:=Lib.hid h2'
 have hlt':=hg'.lt
 clear h1 h2 hg hal hlt h2' hg' hZ hq
 go_enter Tryz.func365,Tryz.ntmps365
 go_wp2_with fail
 generalize w.alloc (.cells #[.int .i64 o,.int .i64 i,.slice a n cp] 309 (0,0))=wa at HC HA HG H2 hlt' |-
 refine HC.out.mono ?_
 rintro e w1 ⟨v,rfl,hr,hb⟩
 obtain ⟨a5,c5,rfl,hi5⟩:=hr.form
 have HD:=Lib.hid (Qc2 w1 a2 n2 c4 xs a5 Z.length c5 Z ((H2.out.below hb (Nat.le_refl _)).le hb.size) (hi5 (by omega)) (HG.out.below hlt' hb))
 have HB:=Lib.hid hb
 clear hr hb hi5 HC
 go_wp2_with fail
 refine HD.out.mono ?_
 rintro e w2 ⟨u,rfl,hr,hb⟩
 have hs1:=HA.out.size
 have hs2:=HB.out.size
 cases q
 all_goals
  go_wp2_with fail
  go_ret2
  exact ⟨u,rfl,hr.le (by omega),(HA.out.trans (HB.out.mono hs1)).trans (hb.mono (by omega))⟩
end Go.Proofs.YtcooobnaocbdjaaGreatDoor

end
