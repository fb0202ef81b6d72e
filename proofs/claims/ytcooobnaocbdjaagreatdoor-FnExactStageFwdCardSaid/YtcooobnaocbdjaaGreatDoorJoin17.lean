import Derived.Test.YtcooobnaocbdjaaGreatDoorJoin10
import Derived.Test.YtcooobnaocbdjaaGreatDoorJoin9
import Derived.Maps.Views
import Derived.Maps.OwnSet
import Derived.MapViews
import Derived.Maps.Own
import Derived.Maps.OwnOps
import Derived.DeepKeys4
import Derived.Deep.QuietTactic
import Derived.BigQuiet
import Derived.Test.YtcooobnaocbdjaaGreatDoorJoin13
/-! YtcooobnaocbdjaaGreatDoorPStgF -/
section
set_option linter.unusedVariables false
namespace Go.Proofs.YtcooobnaocbdjaaGreatDoor
open Go.RowKit
def Za (s:Qq) (m:Int) (x t:List Int):Bool:=
 Q4 s && Qm x && decide ((x.length:Int)=(opAt (opsS s) 0).2.1) && decide (Qar (Zc s) m<0) && !(Qbt s && !(Qm t && decide ((t.length:Int)=(opAt (opsS s) ((opsS s).length-1)).2.2.1)))
def outS (s:Qq) (x:List Int):List Int:=inK (opsS s) x (opsS s).length
def Qqh (s:Qq) (x t:List Int):Qat:=
 ((
  sumS s).1,if Qbt s=true then addN (sumS s).2.1 (Qce (outS s x) t) else (sumS s).2.1,
  if Qbt s=true then ((sumS s).2.2 || inKB (opsS s) x (opsS s).length) || Qes (outS s x) t || addB (sumS s).2.1 (Qce (outS s x) t) else (sumS s).2.2 || inKB (opsS s) x (opsS s).length)
def Zt (s:Qq) (m:Int) (x:List Int):Qx:=(m,if Qb3 s=true then [x] else insN (opsS s) x)
def fwdN (s:Qq) (m:Int) (x t:List Int):Qq:=
 if Za s m x t=true then
  (pcS s,Qfg s,opsS s,Qbt s,Qb3 s,Zc s ++ [Zt s m x],Qj7 s,[],if Qbt s=true then yS s else outS s x,gS s,dS s,Qqh s x t)
 else s
theorem Qn8 {s:Qq} {m:Int} {x t:List Int} (h:Za s m x t=false):fwdN s m x t=s:=by unfold fwdN;rw [h];rfl
theorem Qfm {s:Qq} {m:Int} {x t:List Int} (h:Za s m x t=true):fwdN s m x t=(pcS s,Qfg s,opsS s,Qbt s,Qb3 s,Zc s ++ [Zt s m x],Qj7 s,[],if Qbt s=true then yS s else outS s x,gS s,dS s,Qqh s x t):=by unfold fwdN;rw [h];rfl
theorem Qd9 (m:List dOp) (x:List Int):(insN m x).take 1=[x]:=by
 have h0:(insN m x)[0]? = some x:=Qan _ _ 0 (by omega)
 have hl:(insN m x).length=m.length+1:=Zy _ _
 cases h:insN m x with
 | nil=>rw [h] at hl;simp at hl
 | cons y ys=>rw [h] at h0;simp at h0;simp [h0]
end Go.Proofs.YtcooobnaocbdjaaGreatDoor

end

/-! YtcooobnaocbdjaaGreatDoorPSlotM -/
section
set_option linter.unusedVariables false
namespace Go.Proofs.YtcooobnaocbdjaaGreatDoor
open Go.RowKit Go.Maps Go.ChangeMaps Go.WideShapes
abbrev In64 (x:Int):Prop:= -9223372036854775808<=x/\x<=9223372036854775807
theorem In64.wf {x:Int} (h:In64 x):(Lit.int .i64 x).wf=true:=by
 unfold Lit.wf
 simp only [Bool.and_eq_true,decide_eq_true_eq]
 exact h
abbrev Qjd {H:Type} (k:Nat):DataW H:= .lit (.int .i64 (k:Int))
structure SlotKeys (L:Int->Int->Lit):Prop where
 key : ∀ {m a:Int},In64 m->In64 a->WideAt.IsKeyLit (L m a)
 inj : ∀ {m a m' a':Int},In64 m->In64 a->In64 m'->In64 a'->L m a=L m' a'->m=m'/\a=a'
structure Placed {H:Type} (L:Int->Int->Lit) (ms:List Int) (D:DataW H):Prop where
 at_ : ∀ (i:Nat) (m:Int),ms[i]? = some m -> ∀ z,D.atKey (L m ((ms.take i).count m:Nat)) z=Qjd i
 lt : ∀ (m:Int) (a:Nat),In64 m->In64 (a:Int)->has D (L m (a:Int))=true->a<ms.count m
 vals : ∃ es,D = .map es/\(es.map (·.2)).Perm ((List.range ms.length).map Qjd)
theorem Qkk {ms:List Int} {i:Nat} {m:Int} (h:ms[i]? = some m):(ms.take i).count m<ms.count m:=by
 obtain ⟨hi,he⟩:=List.getElem?_eq_some_iff.1 h
 have e:ms=ms.take i ++ m::ms.drop (i+1):=by
  rw [<- he,List.getElem_cons_drop,List.take_append_drop]
 have h2:ms.count m=(ms.take i).count m+(m::ms.drop (i+1)).count m:=by
  conv=>lhs;rw [e]
  rw [List.count_append]
 rw [h2,List.count_cons_self]
 omega
theorem Placed.empty {H:Type} (L:Int->Int->Lit):Placed (H:=H) L [] (.map []) where
 at_:=fun i m h=>by simp at h
 lt:=fun m a _ _ h=>by simp [has] at h
 vals:=⟨[],rfl,by simp⟩
theorem Qbu (ms:List Int) (m:Int) (hl:ms.length<=1048576):In64 ((ms.count m:Nat):Int):=by
 have:=List.count_le_length (a:=m) (l:=ms)
 constructor <;> omega
theorem Placed.step {H:Type} {L:Int->Int->Lit} {ms:List Int} {D:DataW H} (h:Placed L ms D) (K:SlotKeys L) (hw : ∀ x∈ms,In64 x) {m:Int} (hm:In64 m) (hl:ms.length<=1048576) :
  Placed L (ms ++ [m]) (D.put (L m (ms.count m:Nat)) (Qjd ms.length)):=by
 have hM:IsMap D:=by obtain ⟨es,e,_⟩:=h.vals;exact ⟨es,e⟩
 have hk:=K.key hm (Qbu ms m hl)
 have hnew:has D (L m (ms.count m:Nat))=false:=by
  cases hh:has D (L m (ms.count m:Nat))
  ·rfl
  ·exact absurd (h.lt m _ hm (Qbu ms m hl) hh) (Nat.lt_irrefl _)
 refine ⟨fun i x hx z => ?_,fun x a hx ha hh => ?_,?_⟩
 ·by_cases hi:i<ms.length
  ·rw [List.getElem?_append_left hi] at hx
   rw [List.take_append_of_le_length (Nat.le_of_lt hi)]
   have hlt:=Qkk hx
   rw [atKey_put_other]
   ·exact h.at_ i x hx z
   ·intro e
    have hi2:=Qbu (ms.take i) x (by rw [List.length_take];omega)
    obtain ⟨rfl,e2⟩:=K.inj (hw x (List.mem_of_getElem? hx)) hi2 hm (Qbu ms m hl) e
    omega
  ·have hil:i=ms.length:=by
    have:=(List.getElem?_eq_some_iff.1 hx).1
    simp at this
    omega
   subst hil
   rw [List.getElem?_append_right (Nat.le_refl _),Nat.sub_self] at hx
   cases hx
   rw [List.take_append_of_le_length (Nat.le_refl _),List.take_length]
   exact atKey_put_same hM hk _ _
 ·by_cases e:L x (a:Int)=L m (ms.count m:Nat)
  ·obtain ⟨rfl,e2⟩:=K.inj hx ha hm (Qbu ms m hl) e
   rw [List.count_append,List.count_singleton_self]
   omega
  ·rw [has_put_other e] at hh
   have:=h.lt x a hx ha hh
   rw [List.count_append]
   omega
 ·obtain ⟨es,rfl,hp⟩:=h.vals
  refine ⟨_,DataW.put_eq _ _ _,?_⟩
  have hf:es.filter (notKey (L m (ms.count m:Nat)))=es:=by
   rw [List.filter_eq_self]
   intro p hp'
   rw [has_eq,List.any_eq_false] at hnew
   have:=hnew p hp'
   simpa [notKey] using this
  unfold putKey
  rw [hf]
  have h1:=((insert_perm (L m (ms.count m:Nat),Qjd (H:=H) ms.length) es).map (·.2))
  refine h1.trans ?_
  rw [List.length_append,List.length_singleton,List.range_succ,List.map_append,List.map_cons]
  exact (List.Perm.cons _ hp).trans (List.perm_append_singleton _ _).symm
theorem Placed.first {H:Type} {L:Int->Int->Lit} {ms:List Int} {D:DataW H} (h:Placed L ms D) {k:Nat} {m:Int} (hk:ms[k]? = some m) (h0 : ∀ j,j<k->ms[j]? ≠ some m) :
  (∀ z,D.atKey (L m 0) z=Qjd k)/\has D (L m 0)=true:=by
 have hc:(ms.take k).count m=0:=by
  rw [List.count_eq_zero]
  intro hx
  obtain ⟨j,hj⟩:=List.mem_iff_getElem?.1 hx
  have hjl:=(List.getElem?_eq_some_iff.1 hj).1
  rw [List.length_take] at hjl
  rw [List.getElem?_take] at hj
  split at hj
  ·exact h0 j (by omega) hj
  ·cases hj
 have h1:=h.at_ k m hk
 rw [hc] at h1
 exact ⟨h1,has_true_of_atKey h1⟩
theorem Placed.lacks {H:Type} {L:Int->Int->Lit} {ms:List Int} {D:DataW H} (h:Placed L ms D) {m:Int} (hm:In64 m) (h0:m ∉ ms):has D (L m 0)=false:=by
 cases hh:has D (L m 0)
 ·rfl
 ·have:=h.lt m 0 hm ⟨by omega,by omega⟩ hh
  rw [List.count_eq_zero_of_not_mem h0] at this
  exact absurd this (Nat.lt_irrefl _)
end Go.Proofs.YtcooobnaocbdjaaGreatDoor

end

/-! YtcooobnaocbdjaaGreatDoorPPlaces -/
section
set_option maxRecDepth 100000
set_option maxHeartbeats 6400000
set_option linter.unusedSimpArgs false
set_option linter.unusedVariables false
namespace Go.Proofs.YtcooobnaocbdjaaGreatDoor
open Go.RowKit Go.Sort Go.Maps
theorem Qpt:laidOutB Tryz.prog=true:=by kernel_rfl
theorem Qq8:(194:TypeId)<Tryz.prog.types.size:=of_decide_eq_true (by kernel_rfl)
theorem Qpu:Tryz.prog.keyTypeAt 2 194=true:=by kernel_rfl
theorem Qfn:Keyed Tryz.prog 194:=Keyed.of_law (deep_law_laid Qpt (m:=2) (by omega) Qq8 Qpu (by rw [Tryz.underlying194]))
theorem Qpv:Tryz.prog.keyType 194=true:=by kernel_rfl
theorem Qpw : ∃ m,Tryz.prog.types.size=m+1:=⟨Tryz.prog.types.size-1,by have:0<Tryz.prog.types.size:=of_decide_eq_true (by kernel_rfl);omega⟩
def Qn9 (m a:Int):Lit:= .string (keyBytes [.int .i64 m,.int .i64 a])
theorem Qoa:Tryz.prog.cellsOf 194=2:=by kernel_rfl
theorem Qpx:Tryz.prog.cellsOf 3=1:=by kernel_rfl
theorem Qcv {m a:Int} (hm:In64 m) (ha:In64 a):keyOf Tryz.prog 194 (.agg #[.int .i64 m,.int .i64 a])=some (Qn9 m a):=by
 have hkt:=Qpv
 have hc:=Qoa
 have hi:=Qpx
 obtain ⟨s,hs⟩:=Qpw
 have wm:=hm.wf
 have wa:=ha.wf
 unfold keyOf
 simp only [Tryz.underlying194]
 rw [if_pos (by simp [hkt,Value.formed,Tryz.underlying194,hc]),hs]
 unfold Program.keyLits
 simp only [Tryz.underlying194,Value.cells]
 simp [hc,hi,Program.keyLits,Tryz.underlying3,wm,wa,Qn9]
theorem Qpy:SlotKeys Qn9 where
 key hm ha:=Qfn.key (Qcv hm ha)
 inj hm ha hm' ha' e:=by
  have h:=Qfn.inj (Qcv hm ha) ((Qcv hm' ha').trans (congrArg some e.symm))
  simpa using h
theorem Qld:Keyed Tryz.prog 3:=int_keyed Tryz.underlying3
theorem Qh1 {m:Int} (hm:In64 m):keyOf Tryz.prog 3 (.int .i64 m)=some (.int .i64 m):=keyOf_int_mk Tryz.underlying3 hm.wf
theorem Qh2 (w:World):(zeroValue 3).run Tryz.prog w = .ok (.int .i64 0) w:=by kernel_rfl
def Qkl (l:List Qx):Prop:= ∀ x∈l,In64 x.1
abbrev msOf (l:List Qx):List Int:=l.map (·.1)
def Qde {H:Type} (ms:List Int) (D:DataW H):Prop:= ∀ m,In64 m->D.atKey (.int .i64 m) (.lit (.int .i64 0)) = .lit (.int .i64 ((ms.count m:Nat):Int))
theorem Qde.empty {H:Type}:Qde (H:=H) [] (.map []):=fun m _=>by rfl
theorem Qde.step {H:Type} {ms:List Int} {D:DataW H} (h:Qde ms D) (hM:IsMap D) {m:Int} (hm:In64 m):Qde (ms ++ [m]) (D.put (.int .i64 m) (.lit (.int .i64 (((ms.count m:Nat):Int)+1)))):=fun x hx=>by
 by_cases e:x=m
 ·subst e
  rw [atKey_put_same hM (Qld.key (Qh1 hm)),List.count_append,List.count_singleton_self]
  rfl
 ·rw [atKey_put_other (fun e'=>e (by injection e')),h x hx,List.count_append]
  have:[m].count x=0:=List.count_eq_zero_of_not_mem (by simpa using e)
  rw [this,Nat.add_zero]
theorem Qh3 {H:Type} {x y:Int} (h:(DataW.lit (.int .i64 x):DataW H) = .lit (.int .i64 y)):x=y:=by
 injection h with h
 injection h
theorem Qf9 (w:World) (a:Option Addr) (n c:Nat) (l:List Qx) (h:Qb Qc (Qf w.heap.size) w a n l) (hn:n<=1048576) (hw:Qkl l) :
  Calls Tryz.prog 146 #[.slice a n c] w fun e w' => ∃ D:DataW Unit,e = .returned (.map (some w.heap.size))/\w'.ownsMap Tryz.prog 194 (plainElem Tryz.prog 3) w.heap.size n D/\Placed Qn9 (msOf l) D/\Below w.heap.size w w':=by
 have hmm:= @run_makeMap Tryz.prog
 have hA:=((Below.refl w.heap.size w).alloc (Nat.le_refl _) (.map #[] 0)).alloc (by simp) (.map #[] 0)
 have hP:((w.alloc (.map #[] 0)).alloc (.map #[] 0)).ownsMap (H:=Unit) Tryz.prog 194 (plainElem Tryz.prog 3) w.heap.size 0 (.map []):=(World.ownsMap_made w _ _ _).alloc _
 have hS:((w.alloc (.map #[] 0)).alloc (.map #[] 0)).ownsMap (H:=Unit) Tryz.prog 3 (plainElem Tryz.prog 3) (w.heap.size+1) 0 (.map []):=by
  have:=World.ownsMap_made (H:=Unit) (w.alloc (.map #[] 0)) Tryz.prog 3 (plainElem Tryz.prog 3)
  rwa [World.size_alloc] at this
 have HL:=Lib.hid h
 have HLEN:=Lib.hid h.1
 have HW:=Lib.hid hw
 have HA:=Lib.hid hA
 have HP:=Lib.hid hP
 have HS:=Lib.hid hS
 clear h hw hA hP hS
 go_enter Tryz.func146,Tryz.ntmps146
 go_wp2_with fail
 generalize (w.alloc (.map #[] 0)).alloc (.map #[] 0)=W0 at HA HP HS |-
 clear hmm
 go_loopw [11] (fun i wr => ∃ (k:Nat) (Dp Ds:DataW Unit),k<=n/\i = .int .i64 k/\wr.ownsMap Tryz.prog 194 (plainElem Tryz.prog 3) w.heap.size k Dp/\Placed Qn9 (msOf (l.take k)) Dp /\
   wr.ownsMap Tryz.prog 3 (plainElem Tryz.prog 3) (w.heap.size+1) k Ds/\Qde (msOf (l.take k)) Ds/\Below w.heap.size w wr) (fun i _=>n-(intOf i).toNat)
 case atStart=>exact ⟨0,_,_,Nat.zero_le _,rfl,HP.out,Placed.empty _,HS.out,Qde.empty,HA.out⟩
 case round =>
  obtain ⟨k,Dp,Ds,hk,rfl,hop,hpl,hos,hct,hbw⟩:=hrel
  have hsz:=hbw.size
  by_cases hlt:k<n
  ·obtain ⟨b,o,x,ax,nx,cx,hx,rfl,hbB,hc0,hc1,-,-,-⟩:=Qcq HL.out k hlt
   have hM64:In64 x.1:=HW.out x (List.mem_of_getElem? hx)
   have htk:msOf (l.take (k+1))=msOf (l.take k) ++ [x.1]:=by unfold msOf;rw [List.take_add_one,hx,List.map_append];rfl
   have hlk:(msOf (l.take k)).length=k:=by unfold msOf;rw [List.length_map,List.length_take,HLEN.out];omega
   have hwm : ∀ y∈msOf (l.take k),In64 y:=fun y hy=>by
    obtain ⟨z,hz,rfl⟩:=List.mem_map.1 hy
    exact HW.out z (List.mem_of_mem_take hz)
   obtain ⟨M,hM⟩ : ∃ M,x.1=M:=⟨_,rfl⟩
   rw [hM] at hc0 hM64 htk
   have hstepP:=hpl.step Qpy hwm hM64 (by omega)
   have hstepS:=hct.step hos.isMap hM64
   have hctM:=hct M hM64
   have hle:=List.count_le_length (a:=M) (l:=msOf (l.take k))
   rw [hlk] at hstepP hle
   obtain ⟨q,hq⟩ : ∃ q,(msOf (l.take k)).count M=q:=⟨_,rfl⟩
   rw [hq] at hstepP hstepS hctM hle
   have d0:=(hbw.cell (p:=⟨b,o+k*2,none⟩) hbB).trans hc0
   have d1:=(hbw.cell (p:=⟨b,o+k*2+1,none⟩) hbB).trans hc1
   have hal:=(Below.refl wr.heap.size wr).alloc (Nat.le_refl _) (.cells #[.int .i64 M,.slice ax nx cx] 46 (0,0))
   have hbk:=heap_alloc_new wr (.cells #[.int .i64 M,.slice ax nx cx] 46 (0,0))
   have hop1:=hop.alloc (.cells #[.int .i64 M,.slice ax nx cx] 46 (0,0))
   have hos1:=hos.alloc (.cells #[.int .i64 M,.slice ax nx cx] 46 (0,0))
   have hpw:=hop.lt
   have hsw:=hos.lt
   have q64:In64 (q:Int):=⟨by omega,by omega⟩
   have HTK:=Lib.hid htk
   have HSP:=Lib.hid hstepP
   have HSS:=Lib.hid hstepS
   have HCM:=Lib.hid hctM
   have HBW:=Lib.hid hbw
   have HAL:=Lib.hid hal
   have HBN:=Lib.hid hbk
   have HOP:=Lib.hid hop1
   have HOS:=Lib.hid hos1
   clear hx hc0 hc1 hM htk hstepP hstepS hctM hbw hal hbk hop hos hop1 hos1 hpl hct hlk hwm hq
   go_upto_region 5 with fail
   clear d0 d1
   generalize wr.alloc (.cells #[.int .i64 M,.slice ax nx cx] 46 (0,0))=wb at HAL HBN HOP HOS |-
   have y0:wb.cell? ⟨wr.heap.size,0,none⟩=some (.int .i64 M):=Qa HBN.out 0 _ rfl
   go_upto_region 6 with (first
    | (at_lookup;refine wpList_lookup_own_int _ rfl _ _ 265 rfl 3 3 .i64 Qld Tryz.underlying265 Tryz.underlying3 (Qh2 _) (w.heap.size+1) k Ds rfl HOS.out _ _ rfl (Qh1 hM64) ?_;intro c1 hat1 hwc1;obtain rfl:(q:Int)=c1:=Qh3 (HCM.out.symm.trans hat1);clear hat1 hwc1)
    | (at_mapUpdate;refine wpList_mapUpdate_own _ rfl _ _ _ 191 rfl 194 3 Qfn Tryz.underlying191 _ w.heap.size k Dp rfl HOP.out (by unfold maxLen;omega) _ _ _ rfl rfl (Qcv hM64 q64) _ [] (plainElem_int Tryz.underlying3 (In64.wf (x:=(k:Int)) ⟨by omega,by omega⟩)) ?_;intro w1 hown1 hgrow1))
   have hs1:=hgrow1.size
   have hbs:wr.heap.size<wb.heap.size:=(Array.getElem?_eq_some_iff.1 HBN.out).1
   have hos2:=HOS.out.kept hgrow1 (fun e=>by injection e;omega)
   have hb2:=(hgrow1.block wr.heap.size hbs (fun e=>by injection e;omega)).trans HBN.out
   have z0:w1.cell? ⟨wr.heap.size,0,none⟩=some (.int .i64 M):=Qa hb2 0 _ rfl
   have hbb:Below w.heap.size w w1:=(HBW.out.trans (HAL.out.mono hsz)).grown hgrow1 (by have:=HAL.out.size;omega) (fun j e=>by cases e;exact Nat.le_refl _)
   have HOP1:=Lib.hid hown1
   have HOS1:=Lib.hid hos2
   have HB1:=Lib.hid hbb
   clear hown1 hgrow1 hos2 hb2 hbb y0
   have hwr:wrap64 ((q:Int)+1)=(q:Int)+1:=by unfold wrap64;omega
   go_wp2_with (first
    | (at_lookup;refine wpList_lookup_own_int _ rfl _ _ 265 rfl 3 3 .i64 Qld Tryz.underlying265 Tryz.underlying3 (Qh2 _) (w.heap.size+1) k Ds rfl HOS1.out _ _ rfl (Qh1 hM64) ?_;intro c1 hat1 hwc1;obtain rfl:(q:Int)=c1:=Qh3 (HCM.out.symm.trans hat1);clear hat1 hwc1)
    | (at_mapUpdate;refine wpList_mapUpdate_own _ rfl _ _ _ 265 rfl 3 3 Qld Tryz.underlying265 _ (w.heap.size+1) k Ds rfl HOS1.out (by unfold maxLen;omega) _ _ _ rfl rfl (Qh1 hM64) _ [] (plainElem_int Tryz.underlying3 (In64.wf (x:=(q:Int)+1) ⟨by omega,by omega⟩)) ?_;intro w2 hown2 hgrow2))
   have hop2:=HOP1.out.kept hgrow2 (fun e=>by injection e;omega)
   have hb3:Below w.heap.size w w2:=HB1.out.grown hgrow2 (by omega) (fun j e=>by cases e;omega)
   have HOP2:=Lib.hid hop2
   have HOS2:=Lib.hid hown2
   have HB3:=Lib.hid hb3
   clear hown2 hgrow2 hop2 hb3
   go_roundw
   case rel=>exact ⟨k+1,_,_,by omega,by go_num,HOP2.out,by rw [HTK.out];exact HSP.out,HOS2.out,by rw [HTK.out];exact HSS.out,HB3.out⟩
   case measure=>simp [intOf];omega
  ·obtain rfl:k=n:=by omega
   rw [List.take_of_length_le (Nat.le_of_eq HLEN.out)] at hpl
   have HOP:=Lib.hid hop
   have HPL:=Lib.hid hpl
   have HBW:=Lib.hid hbw
   clear hop hpl hos hct hbw
   go_wp2_with fail
   go_ret
   exact ⟨_,rfl,HOP.out,HPL.out,HBW.out⟩
theorem Qje {l:List Qx} {m:Int} {k:Nat}:(msOf l)[k]? = some m ↔ ∃ x,l[k]? = some x/\x.1=m:=by
 unfold msOf
 rw [List.getElem?_map]
 cases l[k]? <;> simp
theorem Qmn (l:List Qx) (m:Int):(∃ k:Nat,Qar l m=(k:Int)/\(msOf l)[k]? = some m /\ ∀ j,j<k->(msOf l)[j]? ≠ some m)\/(Qar l m = -1/\m ∉ msOf l):=by
 unfold Qar
 cases h:l.findIdx? (fun x=>decide (x.1=m)) with
 | none =>
  rw [List.findIdx?_eq_none_iff] at h
  refine .inr ⟨rfl,fun hm => ?_⟩
  obtain ⟨x,hx,rfl⟩:=List.mem_map.1 hm
  simpa using h x hx
 | some k =>
  rw [List.findIdx?_eq_some_iff_getElem] at h
  obtain ⟨hk,h1,h2⟩:=h
  refine .inl ⟨k,rfl,Qje.2 ⟨_,List.getElem?_eq_getElem hk,of_decide_eq_true h1⟩,fun j hj e => ?_⟩
  obtain ⟨x,hx,e'⟩:=Qje.1 e
  have:=h2 j hj
  rw [List.getElem?_eq_getElem (by omega)] at hx
  rw [Option.some.inj hx,e'] at this
  simp at this
theorem Qfo (w:World) (a:Option Addr) (n c:Nat) (l:List Qx) (h:Qb Qc (Qf w.heap.size) w a n l) (g1:n<=c) (g2:c<=9223372036854775807) (hb:(Shape.list Qc).bulk l<=1048576) (hw:Qkl l) (m:Int) (hm:In64 m) :
  Calls Tryz.prog 56 #[.slice a n c,.int .i64 m] w fun e w'=>e = .returned (.int .i64 (Qar l m))/\Below w.heap.size w w':=by
 rw [Qh Qc h] at hb
 have HC:=Lib.hid (Qf9 w a n c l h (by omega) hw)
 have hn:n<=1048576:=by omega
 have HF:=Lib.hid (Qmn l m)
 obtain ⟨R,hR⟩ : ∃ R,Qar l m=R:=⟨_,rfl⟩
 rw [hR] at HF |-
 clear h hb hw hR
 go_enter Tryz.func56,Tryz.ntmps56
 go_wp2_with fail
 refine HC.out.mono ?_
 rintro e w1 ⟨D,rfl,hown,hpl,hb⟩
 have HO:=Lib.hid hown
 have HB:=Lib.hid hb
 have hm0:In64 0:=⟨by omega,by omega⟩
 rcases HF.out with ⟨k,hRk,hk,h0⟩ | ⟨hR1,hno⟩
 ·obtain ⟨hat,hhas⟩:=hpl.first hk h0
  have HAT:=Lib.hid hat
  have HHAS:=Lib.hid hhas
  clear hown hpl hb hat hhas hk h0
  obtain rfl:=hRk
  go_wp2_with (at_lookup;refine wpList_lookup_own_ok_int _ rfl _ _ 191 rfl 194 3 .i64 Qfn Tryz.underlying191 Tryz.underlying3 (Qh2 _) w.heap.size n D rfl HO.out _ _ rfl (Qcv hm hm0) ?_;intro c1 hat1 hwc1;obtain rfl:(k:Int)=c1:=Qh3 ((HAT.out _).symm.trans hat1);clear hat1 hwc1;rw [HHAS.out])
  go_ret
  exact ⟨rfl,HB.out⟩
 ·have hhas:=hpl.lacks hm hno
  have hat:=fun z:DataW Unit=>atKey_of_not_has hhas z
  have HAT:=Lib.hid hat
  have HHAS:=Lib.hid hhas
  clear hown hpl hb hat hhas hno
  obtain rfl:=hR1
  go_wp2_with (at_lookup;refine wpList_lookup_own_ok_int _ rfl _ _ 191 rfl 194 3 .i64 Qfn Tryz.underlying191 Tryz.underlying3 (Qh2 _) w.heap.size n D rfl HO.out _ _ rfl (Qcv hm hm0) ?_;intro c1 hat1 hwc1;obtain rfl:(0:Int)=c1:=Qh3 ((HAT.out _).symm.trans hat1);clear hat1 hwc1;rw [HHAS.out])
  go_ret
  exact ⟨rfl,HB.out⟩
end Go.Proofs.YtcooobnaocbdjaaGreatDoor

end

/-! YtcooobnaocbdjaaGreatDoorPModJ -/
section
set_option linter.unusedVariables false
namespace Go.Proofs.YtcooobnaocbdjaaGreatDoor
open Go.RowKit Go.Sort
end Go.Proofs.YtcooobnaocbdjaaGreatDoor

end
