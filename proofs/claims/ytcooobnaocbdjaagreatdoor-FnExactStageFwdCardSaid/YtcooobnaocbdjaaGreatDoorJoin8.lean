import Derived.Test.YtcooobnaocbdjaaGreatDoorJoin7
import Derived.Test.YtcooobnaocbdjaaGreatDoorJoin3
import Derived.Laws.ResultCell
import Derived.Deep.AppendLies
import Derived.Deep.RegionLaw
/-! YtcooobnaocbdjaaGreatDoorPMatS -/
section
set_option maxRecDepth 100000
set_option linter.unusedVariables false
namespace Go.Proofs.YtcooobnaocbdjaaGreatDoor
open Go.RowKit
theorem Qit {r c:Int} (hr:inB 1 6 r=true) (hc:inB 1 6 c=true):1<=r*c/\r*c<=36:=by
 obtain ⟨a0,a1⟩:=Qa2 hr
 obtain ⟨b0,b1⟩:=Qa2 hc
 have h:r=1\/r=2\/r=3\/r=4\/r=5\/r=6:=by omega
 rcases h with rfl | rfl | rfl | rfl | rfl | rfl <;> omega
theorem Ql4 {r c:Int} {xs:List Int} (hr:inB 1 6 r=true) (hc:inB 1 6 c=true) (hl:(xs.length:Int)=r*c):Jv r c xs=xs.all okB:=by
 unfold Jv
 rw [hr,hc,decide_eq_true hl]
 simp
theorem Qpi {r c:Int} {xs:List Int} (hr:inB 1 6 r=false):Jv r c xs=false:=by unfold Jv;rw [hr];rfl
theorem Qpj {r c:Int} {xs:List Int} (hc:inB 1 6 c=false):Jv r c xs=false:=by unfold Jv;rw [hc,Bool.and_false];rfl
theorem Qpk {r c:Int} {xs:List Int} (hl : ¬ (xs.length:Int)=r*c):Jv r c xs=false:=by unfold Jv;rw [decide_eq_false hl,Bool.and_false];rfl
theorem Qhk (w:World) (r c:Int) (a:Option Addr) (n cp:Nat) (xs:List Int) (h:IntsIn w.heap.size w a n xs) :
  Calls Tryz.prog 289 #[.agg #[.int .i64 r,.int .i64 c,.slice a n cp]] w fun e w'=>e = .returned (.bool (Jv r c xs))/\Below w.heap.size w w':=by
 have hroom:=h.room
 have hal:Below w.heap.size w (w.alloc (.cells #[.int .i64 r,.int .i64 c,.slice a n cp] 276 (0,0))):=(Below.refl _ _).alloc (Nat.le_refl _) _
 have HA:=Lib.hid hal
 have H:=Lib.hid (h.below hal (Nat.le_refl _))
 have hl:=h.len
 have HR:=Lib.hid (fun w=>Qag r 1 6 w)
 have HC:=Lib.hid (fun w=>Qag c 1 6 w)
 clear h hal
 obtain ⟨d,hd⟩ : ∃ d,d=Jv r c xs:=⟨_,rfl⟩
 rw [<- hd]
 have HD:=Lib.hid hd
 clear hd
 cases hr:inB 1 6 r with
 | false =>
  have hdf:d=false:=by rw [HD.out];exact Qpi hr
  subst hdf
  rw [hr] at HR
  clear hr hl
  go_enter Tryz.func289,Tryz.ntmps289
  go_wp2_with fail
  refine (HR.out _).mono ?_
  rintro e w' ⟨rfl,rfl⟩
  go_wp2_with fail
  go_ret
  exact ⟨rfl,HA.out⟩
 | true =>
  cases hc:inB 1 6 c with
  | false =>
   have hdf:d=false:=by rw [HD.out];exact Qpj hc
   subst hdf
   rw [hr] at HR
   rw [hc] at HC
   clear hr hc hl
   go_enter Tryz.func289,Tryz.ntmps289
   go_wp2_with fail
   refine (HR.out _).mono ?_
   rintro e w' ⟨rfl,rfl⟩
   go_wp2_with fail
   refine (HC.out _).mono ?_
   rintro e w' ⟨rfl,rfl⟩
   go_wp2_with fail
   go_ret
   exact ⟨rfl,HA.out⟩
  | true =>
   have hp:=Qit hr hc
   by_cases hn:(n:Int)=r*c
   ·have hall:d=xs.all okB:=by rw [HD.out];exact Ql4 hr hc (by rw [hl];exact hn)
    have HL:=Lib.hid hall
    have hw:wrap64 (r*c)=(n:Int):=by rw [IntWalk.wrap64_in (r*c) (by omega)];exact hn.symm
    rw [hr] at HR
    rw [hc] at HC
    clear hr hc hl hn hp hall
    go_enter Tryz.func289,Tryz.ntmps289
    go_wp2_with fail
    refine (HR.out _).mono ?_
    rintro e w' ⟨rfl,rfl⟩
    go_wp2_with fail
    refine (HC.out _).mono ?_
    rintro e w' ⟨rfl,rfl⟩
    go_wp2_with fail
    obtain ⟨⟨c0,c1,c2⟩,-⟩:=Qdj (heap_alloc_new w (.cells #[.int .i64 r,.int .i64 c,.slice a n cp] 276 (0,0)))
    generalize w.alloc (.cells #[.int .i64 r,.int .i64 c,.slice a n cp] 276 (0,0))=wa at HA H c0 c1 c2 |-
    clear hw
    go_loopw [3] (fun i wr => ∃ k:Nat,k<=n/\i = .int .i64 k/\Hid (∀ j,j<k->okB (xs.getD j 0)=true)/\wr=wa) (fun i _=>n-(intOf i).toNat)
    case atStart=>exact ⟨0,Nat.zero_le _,rfl,fun j hj=>absurd hj (Nat.not_lt_zero _),rfl⟩
    case round =>
     obtain ⟨k,hk,rfl,hsame,rfl⟩:=hrel
     by_cases hlt:k<n
     ·obtain ⟨b,o,rfl,hbB,hcell⟩:=H.out.cells k hlt
      obtain ⟨X,hX⟩ : ∃ X,X=xs.getD k 0:=⟨_,rfl⟩
      rw [<- hX] at hcell
      have HX:=Lib.hid hX
      clear hX
      obtain ⟨o',ho⟩ : ∃ o',okB X=o':=⟨_,rfl⟩
      have HS:=Lib.hid (fun w=>Qah X w)
      rw [ho] at HS
      have HO:=Lib.hid ho
      clear ho
      cases o'
      ·have hdf:d=false:=by rw [HL.out];exact Qe6 (by rw [H.out.len];exact hlt) (by rw [<- HX.out];exact HO.out)
       subst hdf
       go_wp2_with fail
       refine (HS.out _).mono ?_
       rintro e w' ⟨rfl,rfl⟩
       go_wp2_with fail
       go_ret
       exact ⟨rfl,HA.out⟩
      ·go_wp2_with fail
       refine (HS.out _).mono ?_
       rintro e w' ⟨rfl,rfl⟩
       go_wp2_with fail
       go_roundw
       case rel =>
        refine ⟨k+1,by omega,by go_num,show Hid _ from fun j hj => ?_,trivial⟩
        by_cases e:j=k
        ·subst e;rw [<- HX.out];exact HO.out
        ·exact hsame.out j (by omega)
       case measure=>simp [intOf];omega
     ·obtain rfl:k=n:=by omega
      have hdt:d=true:=by
       rw [HL.out]
       exact Qd2 fun j hj=>hsame.out j (by rw [H.out.len] at hj;exact hj)
      subst hdt
      go_wp2_with fail
      go_ret
      exact ⟨rfl,HA.out⟩
   ·have hdf:d=false:=by rw [HD.out];exact Qpk (by rw [hl];exact hn)
    subst hdf
    obtain ⟨P,hP⟩ : ∃ P,r*c=P:=⟨_,rfl⟩
    have hw:wrap64 (r*c)=P:=by rw [IntWalk.wrap64_in (r*c) (by omega)];exact hP
    rw [hP] at hn
    have hne:((n:Int) == P)=false:=by simpa using hn
    rw [hr] at HR
    rw [hc] at HC
    clear hr hc hl hn hp hP
    go_enter Tryz.func289,Tryz.ntmps289
    go_wp2_with fail
    refine (HR.out _).mono ?_
    rintro e w' ⟨rfl,rfl⟩
    go_wp2_with fail
    refine (HC.out _).mono ?_
    rintro e w' ⟨rfl,rfl⟩
    go_wp2_with fail
    go_ret
    exact ⟨rfl,HA.out⟩
theorem Qnu (w:World) (r:Int) (m c i:Nat) (a:Option Addr) (n cp:Nat) (xs:List Int) (h:IntsIn w.heap.size w a n xs) (hcp:n<=cp) (hcap:cp<=9223372036854775807) (hn:n=m*c) (hi:i<m) (hm:m<=6) (hc0:1<=c) (hc:c<=6) :
  Calls Tryz.prog 290 #[.agg #[.int .i64 r,.int .i64 c,.slice a n cp],.int .i64 i] w fun e w' => ∃ a' cp',e = .returned (.slice a' c cp')/\IntsIn w.heap.size w' a' c (J4 c xs i)/\Below w.heap.size w w':=by
 have hal:Below w.heap.size w (w.alloc (.cells #[.int .i64 r,.int .i64 c,.slice a n cp] 276 (0,0))):=(Below.refl _ _).alloc (Nat.le_refl _) _
 have hle:(i+1)*c<=m*c:=Nat.mul_le_mul_right c (by omega)
 have hmc:m*c<=6*6:=Nat.mul_le_mul hm hc
 rw [Nat.succ_mul] at hle
 obtain ⟨q,hq⟩ : ∃ q,i*c=q:=⟨_,rfl⟩
 have e1:(i:Int)*(c:Int)=(q:Int):=by rw [<- hq];push_cast;rfl
 have e2:((i:Int)+1)*(c:Int)=((q+c:Nat):Int):=by rw [Int.add_mul,e1];push_cast;omega
 have hqn:q+c<=n:=by omega
 have hq36:q+c<=36:=by omega
 obtain ⟨b,o,rfl,hbB,_⟩:=h.cells 0 (by omega)
 have hrow:IntsIn w.heap.size (w.alloc (.cells #[.int .i64 r,.int .i64 c,.slice (some ⟨b,o,none⟩) n cp] 276 (0,0))) (some ⟨b,o+q,none⟩) c (J4 c xs i):=by
  refine ⟨Qeh (r:=m) (by rw [h.len,hn]) hi,by omega,fun k hk => ?_⟩
  obtain ⟨b',o',e,hb',hcell⟩:=(h.below hal (Nat.le_refl _)).cells (q+k) (by omega)
  cases e
  refine ⟨b,o+q,rfl,hb',?_⟩
  rw [Qik c xs i k hk,hq]
  rw [Nat.add_assoc]
  exact hcell
 have HA:=Lib.hid hal
 have HW:=Lib.hid hrow
 clear hal hrow h hle hmc hq hn
 go_enter Tryz.func290,Tryz.ntmps290
 go_wp2_with fail
 go_ret
 have e3:q+c-q=c:=by omega
 rw [e3]
 exact ⟨_,_,rfl,HW.out,HA.out⟩
end Go.Proofs.YtcooobnaocbdjaaGreatDoor

end

/-! YtcooobnaocbdjaaGreatDoorPMatW -/
section
set_option linter.unusedVariables false
namespace Go.Proofs.YtcooobnaocbdjaaGreatDoor
open Go.RowKit
def MatB (w:World) (r c:Int) (zs:List Int) (o:Bool) (e:Ending) (w':World):Prop:= ∃ v,e = .returned (.tuple #[.agg #[.int .i64 r,.int .i64 c,v],.bool o])/\Row w.heap.size w' v zs/\Below w.heap.size w w'
def MatV (w:World) (r c:Int) (zs:List Int) (e:Ending) (w':World):Prop:= ∃ v,e = .returned (.agg #[.int .i64 r,.int .i64 c,v])/\Row w.heap.size w' v zs/\Below w.heap.size w w'
def Qsd (r c:Int) (xs:List Int) (r' c':Int) (ys:List Int):Bool:=decide (r=r') && (decide (c=c') && decide (xs=ys))
end Go.Proofs.YtcooobnaocbdjaaGreatDoor

end

/-! YtcooobnaocbdjaaGreatDoorPMatT -/
section
set_option linter.unusedVariables false
namespace Go.Proofs.YtcooobnaocbdjaaGreatDoor
open Go.RowKit
theorem Qiu {B:Nat} {w:World} {b o n:Nat} {xs:List Int} (h:IntsIn B w (some ⟨b,o,none⟩) n xs) : ∀ j u,(Qp xs)[j]? = some u->w.cell? ((⟨b,o,none⟩:Addr).add j)=some u:=by
 intro j u hu
 have hj:j<xs.length:=by
  have:=(List.getElem?_eq_some_iff.1 hu).1
  rwa [Z5] at this
 obtain ⟨b',o',e,_,hc⟩:=h.cells j (by rw [<- h.len];exact hj)
 cases e
 rw [Qbp xs j hj] at hu
 cases hu
 rw [Addr.add_lit]
 exact hc
end Go.Proofs.YtcooobnaocbdjaaGreatDoor

end

/-! YtcooobnaocbdjaaGreatDoorPMatV -/
section
set_option maxRecDepth 100000
set_option maxHeartbeats 6400000
set_option linter.unusedVariables false
namespace Go.Proofs.YtcooobnaocbdjaaGreatDoor
open Go.RowKit
theorem Qc6 (w:World) (r c:Int) (a:Option Addr) (n cp:Nat) (xs:List Int) (a2:Option Addr) (n2 c2:Nat) (ys:List Int) (h1:IntsIn w.heap.size w a n xs) (hcp:n<=cp) (hcap:cp<=9223372036854775807) (h2:IntsIn w.heap.size w a2 n2 ys) :
  Calls Tryz.prog 243 #[.agg #[.int .i64 r,.int .i64 c,.slice a n cp],.slice a2 n2 c2] w (RowB w (mvN r c xs ys) (mvB r c xs ys)):=by
 obtain ⟨i0,hi,hz0,hz1,hz2⟩:=info_parts Tryz.infoI64
 have hroom:=h1.room
 have hal:Below w.heap.size w ((w.alloc (.cells #[.int .i64 r,.int .i64 c,.slice a n cp] 276 (0,0))).alloc (.cells #[] 3 (0,0))):=((Below.refl _ _).alloc (Nat.le_refl _) _).alloc (by simp) _
 have hrow:=Row.empty (w.alloc (.cells #[.int .i64 r,.int .i64 c,.slice a n cp] 276 (0,0))) _ rfl
 have hbx:((w.alloc (.cells #[.int .i64 r,.int .i64 c,.slice a n cp] 276 (0,0))).alloc (.cells #[] 3 (0,0))).heap[w.heap.size]? = some (.cells #[.int .i64 r,.int .i64 c,.slice a n cp] 276 (0,0)):=by
  rw [Below.heap_alloc _ _ _ (by simp)]
  exact heap_alloc_new w _
 have hsz:(w.alloc (.cells #[.int .i64 r,.int .i64 c,.slice a n cp] 276 (0,0))).heap.size=w.heap.size+1:=by simp
 rw [hsz] at hrow
 have LX:=Lib.hid h1.len
 have LY:=Lib.hid h2.len
 have HX:=Lib.hid (h1.below hal (Nat.le_refl _))
 have HY:=Lib.hid (h2.below hal (Nat.le_refl _))
 have HA:=Lib.hid hal
 have HR0:=Lib.hid hrow
 have HB0:=Lib.hid hbx
 clear hal hrow hbx hsz
 have HM:=fun (w:World) (h:IntsIn w.heap.size w a n xs)=>Qhk w r c a n cp xs h
 have HV:=fun (w:World) (h:IntsIn w.heap.size w a2 n2 ys)=>Qu w a2 n2 c2 ys h
 unfold mvN mvB
 cases hm:Jv r c xs with
 | false =>
  have ho:mvOk r c xs ys=false:=by unfold mvOk;rw [hm];rfl
  rw [ho]
  rw [hm] at HM
  replace HM:=Lib.hid HM
  clear hm ho HV h1 h2
  go_enter Tryz.func243,Tryz.ntmps243
  go_wp2_with fail
  generalize (w.alloc (.cells #[.int .i64 r,.int .i64 c,.slice a n cp] 276 (0,0))).alloc (.cells #[] 3 (0,0))=wa at HX HY HA HR0 HB0 |-
  have hsa:=HA.out.size
  have hlt:w.heap.size+1<wa.heap.size:=(HR0.out.lt _ rfl).2
  refine (HM.out _ (HX.out.le hsa)).mono ?_
  rintro e w1 ⟨rfl,hb⟩
  have HB1:=Lib.hid hb
  have hs1:=hb.size
  obtain ⟨⟨d0,d1,d2⟩,-⟩:=Qdj ((hb.block w.heap.size (by omega)).trans HB0.out)
  clear hb
  go_wp2_with fail
  go_ret2
  exact ⟨_,rfl,(HR0.out.below HB1.out).le (by omega),HA.out.trans (HB1.out.mono hsa)⟩
 | true =>
  rw [hm] at HM
  replace HM:=Lib.hid HM
  cases hv:Qm ys with
  | false =>
   have ho:mvOk r c xs ys=false:=by unfold mvOk;rw [hm,hv];rfl
   rw [ho]
   rw [hv] at HV
   replace HV:=Lib.hid HV
   clear hm hv ho h1 h2
   go_enter Tryz.func243,Tryz.ntmps243
   go_wp2_with fail
   generalize (w.alloc (.cells #[.int .i64 r,.int .i64 c,.slice a n cp] 276 (0,0))).alloc (.cells #[] 3 (0,0))=wa at HX HY HA HR0 HB0 |-
   have hsa:=HA.out.size
   have hlt:w.heap.size+1<wa.heap.size:=(HR0.out.lt _ rfl).2
   refine (HM.out _ (HX.out.le hsa)).mono ?_
   rintro e w1 ⟨rfl,hb⟩
   have HB1:=Lib.hid hb
   have hs1:=hb.size
   obtain ⟨⟨d0,d1,d2⟩,-⟩:=Qdj ((hb.block w.heap.size (by omega)).trans HB0.out)
   clear hb
   go_wp2_with fail
   refine (HV.out _ ((HY.out.below HB1.out (by omega)).le (by omega))).mono ?_
   rintro e w' ⟨rfl,rfl⟩
   go_wp2_with fail
   go_ret2
   exact ⟨_,rfl,(HR0.out.below HB1.out).le (by omega),HA.out.trans (HB1.out.mono hsa)⟩
  | true =>
   rw [hv] at HV
   replace HV:=Lib.hid HV
   by_cases hn:(n2:Int)=c
   ·have ho:mvOk r c xs ys=true:=by unfold mvOk;rw [hm,hv,h2.len,decide_eq_true hn];rfl
    rw [ho]
    obtain ⟨m,q,rfl,rfl,⟨m1,m6⟩,⟨q1,q6⟩,hl,ha⟩:=Qd3 hm
    rw [h1.len] at hl
    simp only [Int.toNat_natCast,if_true,Bool.true_and]
    have HN:=Lib.hid hl
    obtain ⟨F,hF⟩ : ∃ F:Nat->Int,(fun i=>dotN (J4 q xs i) ys)=F:=⟨_,rfl⟩
    obtain ⟨G,hG⟩ : ∃ G:Nat->Bool,(fun i=>dotB (J4 q xs i) ys)=G:=⟨_,rfl⟩
    rw [hF,hG]
    have GF:=Lib.hid hF
    have GG:=Lib.hid hG
    have hnn:q=n2:=by omega
    subst hnn
    clear hm hv ho h1 h2 hn hl ha hF hG
    go_enter Tryz.func243,Tryz.ntmps243
    go_wp2_with fail
    generalize (w.alloc (.cells #[.int .i64 m,.int .i64 q,.slice a n cp] 276 (0,0))).alloc (.cells #[] 3 (0,0))=wa at HX HY HA HR0 HB0 |-
    have hsa:=HA.out.size
    have hlt:w.heap.size+1<wa.heap.size:=(HR0.out.lt _ rfl).2
    refine (HM.out _ (HX.out.le hsa)).mono ?_
    rintro e w1 ⟨rfl,hb⟩
    have HB1:=Lib.hid hb
    have hs1:=hb.size
    obtain ⟨⟨d0,d1,d2⟩,-⟩:=Qdj ((hb.block w.heap.size (by omega)).trans HB0.out)
    clear hb
    go_wp2_with fail
    refine (HV.out _ ((HY.out.below HB1.out (by omega)).le (by omega))).mono ?_
    rintro e w' ⟨rfl,rfl⟩
    go_wp2_with fail
    clear d0 d1 d2
    go_loopw [6,7,8] (fun v o i wr => ∃ j:Nat,j<=m/\i = .int .i64 j/\o = .bool (anyK G j)/\Row (w.heap.size+1) wr v (mapK F j)/\Below (w.heap.size+1) wa wr) (fun _ _ i _=>m-(intOf i).toNat)
    case atStart=>exact ⟨0,Nat.zero_le _,rfl,rfl,HR0.out.below HB1.out,HB1.out.mono (by omega)⟩
    case round =>
     obtain ⟨j,hj,rfl,rfl,hrow,hb⟩:=hrel
     have hl:=Qbx F j
     have hs:=hb.size
     obtain ⟨⟨d0,d1,d2⟩,-⟩:=Qdj ((hb.block w.heap.size (by omega)).trans HB0.out)
     have HR:=Lib.hid hrow
     have HB:=Lib.hid hb
     clear hrow hb
     by_cases hlj:j<m
     ·obtain ⟨fl,hfl⟩ : ∃ fl,anyK G j=fl:=⟨_,rfl⟩
      obtain ⟨X,hX⟩ : ∃ X,F j=X:=⟨_,rfl⟩
      obtain ⟨go,hgo⟩ : ∃ go,G j=go:=⟨_,rfl⟩
      have e1:anyK G (j+1)=(fl || go):=by rw [anyK,hfl,hgo]
      have e2:mapK F (j+1)=mapK F j ++ [X]:=by rw [mapK,hX]
      rw [hfl]
      have E1:=Lib.hid e1
      have E2:=Lib.hid e2
      have HFX:Hid (dotN (J4 q xs j) ys=X):=Lib.hid (by rw [<- hX,<- GF.out])
      have HGO:Hid (dotB (J4 q xs j) ys=go):=Lib.hid (by rw [<- hgo,<- GG.out])
      clear hfl hX hgo e1 e2
      go_wp2_with fail
      refine (Qnu _ m m q j a n cp xs ((HX.out.below HB.out (by omega)).le (by omega)) hcp hcap HN.out hlj m6 q1 q6).mono ?_
      rintro e w2 ⟨a',cp',rfl,hi2,hb2⟩
      have hs2:=hb2.size
      have hD:=Qc5 w2 a' q cp' (J4 q xs j) a2 q c2 ys (hi2.le hs2) ((((HY.out.below HB.out (by omega)).le (by omega:w.heap.size<=wr.heap.size)).below hb2 (Nat.le_refl _)).le hs2)
      rw [HFX.out,HGO.out] at hD
      have HD:=Lib.hid hD
      have HB2:=Lib.hid hb2
      clear hD hb2 hi2 d0 d1 d2
      go_wp2_with fail
      refine HD.out.mono ?_
      rintro e w3 ⟨rfl,hb3⟩
      have hs3:=hb3.size
      have hr3:=(HR.out.below HB2.out).below hb3
      have hb13:=HB.out.trans ((HB2.out.mono (by omega)).trans (hb3.mono (by omega)))
      have HB3:=Lib.hid hb13
      have HR3:=Lib.hid hr3
      clear hb3 hb13 hr3
      obtain ⟨zs,hzs⟩ : ∃ zs,mapK F j=zs:=⟨_,rfl⟩
      rw [hzs] at HR3 E2 hl
      have hown:w3.ownsRow (w.heap.size+1) 3 1 _ _ (Qp _):=HR3.out
      have hsz:w.heap.size+1<=w3.heap.size:=by omega
      clear hzs
      cases fl
      all_goals
       go_wp2_with (at_builtin;refine wpList_append_own _ rfl _ _ 28 rfl (w.heap.size+1) 3 i0 (.int .i64 0) 1 8 Tryz.underlying28 hi hz0 hz1 hz2 rfl (by decide) _ _ _ rfl (hown.alloc _) ⟨w3.heap.size,0,none⟩ 1 1 (Qp [X]) rfl rfl (Z9 _ _ _) (Jf _) (by unfold maxLen;omega) (by omega) (by simp;omega) ?_;intro v' w4 hown' hgrow _)
       have hput:=Row.put HR3.out hsz _ hown' hgrow
       clear hown' hgrow hown
       go_wp2_with fail
       go_roundw
       case rel=>exact ⟨j+1,by omega,by go_num,by rw [E1.out];rfl,by rw [E2.out];exact hput.1,HB3.out.trans hput.2⟩
       case measure=>simp [intOf];omega
     ·obtain rfl:j=m:=by omega
      go_wp2_with fail
      go_ret2
      exact ⟨_,rfl,HR.out.le (by omega),HA.out.trans (HB.out.mono (by omega))⟩
   ·have ho:mvOk r c xs ys=false:=by unfold mvOk;rw [hm,hv,h2.len,decide_eq_false hn];rfl
    rw [ho]
    have hne:((n2:Int) == c)=false:=by simpa using hn
    clear hm hv ho h1 h2 hn
    go_enter Tryz.func243,Tryz.ntmps243
    go_wp2_with fail
    generalize (w.alloc (.cells #[.int .i64 r,.int .i64 c,.slice a n cp] 276 (0,0))).alloc (.cells #[] 3 (0,0))=wa at HX HY HA HR0 HB0 |-
    have hsa:=HA.out.size
    have hlt:w.heap.size+1<wa.heap.size:=(HR0.out.lt _ rfl).2
    refine (HM.out _ (HX.out.le hsa)).mono ?_
    rintro e w1 ⟨rfl,hb⟩
    have HB1:=Lib.hid hb
    have hs1:=hb.size
    obtain ⟨⟨d0,d1,d2⟩,-⟩:=Qdj ((hb.block w.heap.size (by omega)).trans HB0.out)
    clear hb
    go_wp2_with fail
    refine (HV.out _ ((HY.out.below HB1.out (by omega)).le (by omega))).mono ?_
    rintro e w' ⟨rfl,rfl⟩
    go_wp2_with fail
    go_ret2
    exact ⟨_,rfl,(HR0.out.below HB1.out).le (by omega),HA.out.trans (HB1.out.mono hsa)⟩
end Go.Proofs.YtcooobnaocbdjaaGreatDoor

end
