import Derived.Test.YtcooobnaocbdjaaGreatDoorJoin40
import Derived.Test.YtcooobnaocbdjaaGreatDoorJoin41
import Derived.Test.YtcooobnaocbdjaaGreatDoorJoin37
import Derived.Test.YtcooobnaocbdjaaGreatDoorJoin24
import Derived.Test.YtcooobnaocbdjaaGreatDoorJoin26
/-! YtcooobnaocbdjaaGreatDoorPStgPO -/
section
namespace Go.Proofs.YtcooobnaocbdjaaGreatDoor
open Go.RowKit Go.Sort
theorem Qgk (w:World) (es:List Value) (s:Qq) (h:Qd.reads (Qf w.heap.size) w es s) (hb:Qd.bulk s<=1048576) (m:Int) (ax:Option Addr) (nx cx:Nat) (X:List Int) (hx:IntsIn w.heap.size w ax nx X) (hnx:nx<=1048576)
  (at':Option Addr) (nt ct:Nat) (Y:List Int) (ht:IntsIn w.heap.size w at' nt Y) (hnt:nt<=1048576) :
  Calls Tryz.prog 21 #[.agg es.toArray,.int .i64 m,.slice ax nx cx,.slice at' nt ct] w fun e w' => ∃ es',e = .returned (.agg (es':List Value).toArray)/\Qd.reads (From w.heap.size w'.heap.size) w' es' (fwdN s m X Y)/\Below w.heap.size w w':=by
 cases h1:Za s m X Y with
 | false=>exact Qgh w es s h hb m ax nx cx X hx hnx at' nt ct Y ht hnt h1
 | true =>
  cases h2:Qbt s with
  | false=>exact Qgi w es s h hb m ax nx cx X hx hnx at' nt ct Y ht hnt h1 h2
  | true=>exact Qgj w es s h hb m ax nx cx X hx hnx at' nt ct Y ht hnt h1 h2
end Go.Proofs.YtcooobnaocbdjaaGreatDoor

end

/-! YtcooobnaocbdjaaGreatDoorPStgYM -/
section
namespace Go.Proofs.YtcooobnaocbdjaaGreatDoor
open Go.RowKit
theorem Qg4 {α:Type} (f:α->Nat) (k:Nat) : ∀ xs:List α,(∀ x∈xs,f x<=k)->Shape.sum f xs<=xs.length*k
 | [],_=>by simp [Shape.sum]
 | x::xs,h=>by
  have h1:=Qg4 f k xs fun y hy=>h y (List.mem_cons_of_mem _ hy)
  have h2:=h x (List.mem_cons_self ..)
  have e:Shape.sum f (x::xs)=f x+Shape.sum f xs:=rfl
  rw [e,List.length_cons,Nat.succ_mul]
  omega
theorem Qen {xs:List dRow} {k:Nat} (h : ∀ x∈xs,x.length<=k):(Shape.list Qi).bulk xs<=xs.length+xs.length*k:=by
 have e:(Shape.list Qi).bulk xs=xs.length+Shape.sum Qi.bulk xs:=rfl
 have:=Qg4 Qi.bulk k xs fun x hx=>by
  have e:Qi.bulk x=x.length:=Ql x
  rw [e]
  exact h x hx
 omega
theorem Qos {s:Qq} (hb:Qd.bulk s<=1048576) (m:Int) {x t:List Int}:Js (fwdN s m x t):=by
 cases h:Za s m x t with
 | false=>rw [Qn8 h];exact Z8 hb
 | true =>
  have h0:=Qoo h
  have hx6:=(Q8 h0.2.1).2.1
  have hops:=(Z4 h0.1).2.2
  have hb5:(Shape.list Qc).bulk (Zc s)<=1048576:=by rw [Q2] at hb;show (Shape.list Qc).bulk s.2.2.2.2.2.1<=_;omega
  obtain ⟨b1,b2,b5,b6,b7,b8,b9,b10,b11⟩:=Z8 hb
  rw [Qfm h]
  have hin : ∀ k,(inK (opsS s) x k).length<=6:=Qlk hx6
  have hr:(Shape.list Qi).bulk (Zt s m x).2<=63:=by
   show (Shape.list Qi).bulk (if Qb3 s=true then [x] else insN (opsS s) x)<=63
   by_cases hd:Qb3 s=true
   ·rw [if_pos hd]
    have:=Qen (xs:=[x]) (k:=6) (fun y hy=>by rw [List.mem_singleton.1 hy];exact hx6)
    simp only [List.length_cons,List.length_nil] at this
    omega
   ·rw [if_neg hd]
    have hl:(insN (opsS s) x).length=(opsS s).length+1:=Zy _ _
    have:=Qen (xs:=insN (opsS s) x) (k:=6) (fun y hy=>by
     obtain ⟨i,hi,e⟩:=List.mem_iff_getElem.1 hy
     have hg:=Qan (inK (opsS s) x) ((opsS s).length+1) i (by rw [<- hl];exact hi)
     have hg2:(insN (opsS s) x)[i]? = some y:=by rw [<- e];exact List.getElem?_eq_getElem hi
     have:inK (opsS s) x i=y:=Option.some.inj (hg.symm.trans hg2)
     rw [<- this]
     exact hin i)
    rw [hl] at this
    omega
  have hnew:Qc.bulk (Zt s m x)<=63:=by rw [Zi];exact hr
  refine ⟨b1,b2,⟨?_,fun y hy => ?_⟩,b6,?_,?_,b9,b10,b11⟩
  ·show (Shape.list Qc).bulk (Zc s ++ [Zt s m x])<=_
   have e1:(Shape.list Qc).bulk (Zc s ++ [Zt s m x])=(Zc s ++ [Zt s m x]).length+Shape.sum Qc.bulk (Zc s ++ [Zt s m x]):=rfl
   have e2:(Shape.list Qc).bulk (Zc s)=(Zc s).length+Shape.sum Qc.bulk (Zc s):=rfl
   have e3 : ∀ l:List Qx,Shape.sum Qc.bulk (l ++ [Zt s m x])=Shape.sum Qc.bulk l+Qc.bulk (Zt s m x):=fun l=>by
    induction l with
    | nil=>simp [Shape.sum]
    | cons z l ih =>
     have q1:Shape.sum Qc.bulk (z::l ++ [Zt s m x])=Qc.bulk z+Shape.sum Qc.bulk (l ++ [Zt s m x]):=rfl
     have q2:Shape.sum Qc.bulk (z::l)=Qc.bulk z+Shape.sum Qc.bulk l:=rfl
     omega
   rw [e1,e3,List.length_append,List.length_singleton]
   omega
  ·rcases List.mem_append.1 (show y∈Zc s ++ [Zt s m x] from hy) with h1 | h1
   ·exact b5.2 y h1
   ·rw [List.mem_singleton.1 h1];omega
  ·show (Shape.list Shape.int).bulk ([]:List Int)<=_
   rw [Ql]
   simp
  ·show (Shape.list Shape.int).bulk (if Qbt s=true then yS s else outS s x)<=_
   by_cases hl:Qbt s=true
   ·rw [if_pos hl];exact b8
   ·rw [if_neg hl,Ql]
    have:=hin (opsS s).length
    show (outS s x).length<=_
    unfold outS
    omega
end Go.Proofs.YtcooobnaocbdjaaGreatDoor

end

/-! YtcooobnaocbdjaaGreatDoorPMarkI -/
section
set_option maxRecDepth 100000
set_option maxHeartbeats 6400000
set_option linter.unusedSimpArgs false
set_option linter.unusedVariables false
namespace Go.Proofs.YtcooobnaocbdjaaGreatDoor
open Go.RowKit
theorem Qm0 (w:World) (F:Foot) (a:Option Addr) (n c:Nat) (xs:List dIns) (k0:Int) (h:Qk Qo F w a n xs) (hb:(Shape.list Z1).bulk xs<=1048576) (hk0:0<=k0) (hc:k0+(Shape.sum Qo.ct xs:Nat)<=4611686018427387904) :
  Calls Tryz.prog 87 #[.slice a n c,.int .i64 k0] w fun e w'=>e = .returned (.int .i64 (k0+(Shape.sum Qo.ct xs:Nat)))/\Qk Qo F w' a n (Owned.mkL Qo.mark Qo.ct xs k0)/\Touched F w w':=by
 have hlen:=h.1
 have hbs:n+Shape.sum Z1.bulk xs<=1048576:=by rw [<- hlen];exact hb
 have hn1:n<=1048576:=by omega
 have HB:Hid (Shape.sum Z1.bulk xs<=1048576):=Lib.hid (by omega)
 clear hbs
 have HC:=Lib.hid hc
 have HLEN:=Lib.hid hlen
 obtain ⟨R,hR⟩ : ∃ R:Int,k0+(Shape.sum Qo.ct xs:Nat)=R:=⟨_,rfl⟩
 rw [hR]
 have HR:=Lib.hid hR
 by_cases hn:0<n
 ·obtain ⟨b,o,G,rfl,hm⟩:=h.marking hn
  have HM:=Lib.hid hm
  clear h hb hc hlen hm hR
  go_enter Tryz.func87,Tryz.ntmps87
  go_wp2_with fail
  go_loopw [5,1] (fun i k wr => ∃ (j:Nat) (V:Int),j<=n/\i = .int .i64 j/\k = .int .i64 V/\Hid (V=k0+(Shape.sum Qo.ct (xs.take j):Nat))/\Marking Qo F w wr b o n G (part Qo.mark Qo.ct xs k0 j)) (fun i _ _=>n-(intOf i).toNat)
  case atStart=>exact ⟨0,k0,Nat.zero_le _,rfl,rfl,Lib.hid (by simp [Shape.sum]),by rw [Qcb];exact HM.out⟩
  case round =>
   obtain ⟨j,V,hj,rfl,rfl,hV,hmk⟩:=hrel
   by_cases hlt:j<n
   ·obtain ⟨x,hx⟩ : ∃ x,xs[j]? = some x:=⟨_,List.getElem?_eq_getElem (by rw [HLEN.out];exact hlt)⟩
    have hy:=(Qdl Qo.mark Qo.ct xs k0 j (by rw [HLEN.out];exact hj)).trans hx
    obtain ⟨es,hr,hs⟩:=hmk.elems j x hy
    have hG:=hmk.inF j
    have hst:=J8 Qo.ct xs j x hx
    have hsl:=Zu Qo.ct xs (j+1)
    have hV0:0<=V:=by rw [hV.out];omega
    have hVc:V+(Qo.ct x:Nat)<=4611686018427387904:=by have h1:=HC.out;have h2:=hV.out;omega
    have hbx:Z1.bulk x<=1048576:=by have h1:=Qz Z1.bulk xs j x hx;have h2:=HB.out;omega
    have HST:=Lib.hid hst
    have HX:=Lib.hid hx
    have HMK:=Lib.hid hmk
    have hp:Placing b (o+j*Qo.size) Qo.size (G j) wr wr es:=⟨Touched.refl _ _,J1 hmk.there (by omega) (by have:=Q9 (s:=Qo.size) hlt;omega),hr,Qo.owns_len hs⟩
    obtain ⟨rfl⟩:=Qdf.1 hs
    rw [Qak] at hp
    have hA : ∀ b' o',G j b' o' -> ¬ Qe8 b (o+j*2) 2 b' o':=fun b' o' g c=>(hG b' o' g).2 ⟨c.1,by have:=c.2.1;omega,by have:=Q9 (s:=2) hlt;have h3:=c.2.2;rw [Qak];omega⟩
    rw [Qg3] at hbx
    have hct:Qo.ct x=2:=by simp only [Qo,Owned.struct,OwnedFields.cons,OwnedFields.last,Owned.int,Owned.bool,Owned.list] <;> omega
    rw [hct] at hVc
    have c0:=hp.range 0 _ rfl
    have f0:=(hp.there 0 (by omega)).2
    have c1:=hp.range 1 _ rfl
    have f1:=(hp.there 1 (by omega)).2
    simp only [Nat.add_zero] at c0 f0
    have hpe:=((hp.store 0 (by omega) (.int .i64 (V))).store 1 (by omega) (.int .i64 (V+1)))
    have hown:=Qdf (F:=G j) (w:=((wr.setCell ⟨b,o+j*2,none⟩ (.int .i64 (V))).setCell ⟨b,o+j*2+1,none⟩ (.int .i64 (V+1)))) (d:=((V),(V+1))).2 rfl
    have hmv:Qo.mark x V=((V),(V+1)):=by
     simp only [Qo,Owned.struct,OwnedFields.cons,OwnedFields.last,Owned.int,Owned.bool,Owned.list]
     try simp
     try (refine ⟨?_,?_⟩ <;> rfl)
    have hN:=HMK.out.step (k:=j) (es':=_) hlt (by rw [Qak];exact hpe.touched) (by rw [Qak];exact hpe.range) hown
    have hps:part Qo.mark Qo.ct xs k0 (j+1)=(part Qo.mark Qo.ct xs k0 j).set j (Qo.mark x V):=by
     rw [hV.out]
     exact Qcc Qo.mark Qo.ct xs k0 j x HX.out
    rw [<- hmv,<- hps] at hN
    have HN:=Lib.hid hN
    clear hN hown hmv
    go_wp2_with fail
    go_round
    case rel=>exact ⟨j+1,_,by omega,by go_num,rfl,Lib.hid (by have e1:=HST.out;have e2:=hV.out;rw [e1];rw [hct];omega),HN.out⟩
    case measure=>simp [intOf];omega
   ·obtain rfl:j=n:=by omega
    have hVR:V=R:=by
     have e1:=hV.out
     rw [List.take_of_length_le (by rw [HLEN.out];exact Nat.le_refl _),HR.out] at e1
     exact e1
    subst hVR
    have hfin:=hmk.own
    rw [<- HLEN.out,Qdk] at hfin
    rw [HLEN.out] at hfin
    have HF:=Lib.hid hfin
    have HT:=Lib.hid hmk.touched
    clear hmk hfin
    go_wp2_with fail
    go_ret
    exact ⟨rfl,HF.out,HT.out⟩
 ·obtain rfl:n=0:=by omega
  obtain rfl:xs=[]:=List.eq_nil_of_length_eq_zero hlen
  have hR0:R=k0:=by rw [<- hR];simp [Shape.sum]
  subst hR0
  clear h hb hc hR HR HC
  go_enter Tryz.func87,Tryz.ntmps87
  go_wp2_with fail
  go_loop [5,1] (fun i k=>i = .int .i64 0/\k = .int .i64 R) (fun _ _=>0)
  case atStart=>exact ⟨rfl,rfl⟩
  case round =>
   obtain ⟨rfl,rfl⟩:=hrel
   go_wp2_with fail
   go_ret
   exact ⟨rfl,⟨rfl,.inl rfl⟩,Touched.refl _ _⟩
theorem Qm1 (w:World) (B:Nat) (a:Option Addr) (n c:Nat) (xs:List dIns) (k0:Int) (h:Qb Z1 (Qf B) w a n (Owned.mkL Qo.mark Qo.ct xs k0)) (hb:(Shape.list Z1).bulk xs<=1048576) (hk0:0<=k0) (hc:k0+(Shape.sum Qo.ct xs:Nat)<=4611686018427387904) :
  Calls Tryz.prog 92 #[.slice a n c,.int .i64 k0] w fun e w'=>e = .returned (.int .i64 (k0+(Shape.sum Qo.ct xs:Nat)))/\w=w':=by
 have hlen:xs.length=n:=by rw [<- h.1,Owned.mkL_length]
 have hbs:n+Shape.sum Z1.bulk xs<=1048576:=by rw [<- hlen];exact hb
 have hn1:n<=1048576:=by omega
 have HB:Hid (Shape.sum Z1.bulk xs<=1048576):=Lib.hid (by omega)
 have HC:=Lib.hid hc
 have HLEN:=Lib.hid hlen
 have HL:=Lib.hid h
 obtain ⟨R,hR⟩ : ∃ R:Int,k0+(Shape.sum Qo.ct xs:Nat)=R:=⟨_,rfl⟩
 rw [hR]
 have HR:=Lib.hid hR
 clear h hb hc hlen hR hbs
 go_enter Tryz.func92,Tryz.ntmps92
 go_wp2_with fail
 go_loop [5,1] (fun i k => ∃ (j:Nat) (V:Int),j<=n/\i = .int .i64 j/\k = .int .i64 V/\Hid (V=k0+(Shape.sum Qo.ct (xs.take j):Nat))) (fun i _=>n-(intOf i).toNat)
 case atStart=>exact ⟨0,k0,Nat.zero_le _,rfl,rfl,Lib.hid (by simp [Shape.sum])⟩
 case round =>
  obtain ⟨j,V,hj,rfl,rfl,hV⟩:=hrel
  by_cases hlt:j<n
  ·obtain ⟨x,hx⟩ : ∃ x,xs[j]? = some x:=⟨_,List.getElem?_eq_getElem (by rw [HLEN.out];exact hlt)⟩
   obtain ⟨b,o,es,rfl,hbB,hr,hs⟩:=HL.out.2 j _ (Qd4 Qo.mark Qo.ct xs k0 j x hx)
   have hst:=J8 Qo.ct xs j x hx
   have hsl:=Zu Qo.ct xs (j+1)
   have hV0:0<=V:=by rw [hV.out];omega
   have hVc:V+(Qo.ct x:Nat)<=4611686018427387904:=by have h1:=HC.out;have h2:=hV.out;omega
   have hbx:Z1.bulk x<=1048576:=by have h1:=Qz Z1.bulk xs j x hx;have h2:=HB.out;omega
   have HST:=Lib.hid hst
   rw [<- hV.out] at hs
   obtain ⟨rfl⟩:=Qkr.1 hs
   rw [Qly] at hr
   rw [Qg3] at hbx
   have hct:Qo.ct x=2:=by simp only [Qo,Owned.struct,OwnedFields.cons,OwnedFields.last,Owned.int,Owned.bool,Owned.list] <;> omega
   rw [hct] at hVc
   have c0:=hr 0 _ rfl
   have c1:=hr 1 _ rfl
   simp only [Nat.add_zero] at c0
   replace c0:w.cell? ⟨b,o+j*2,none⟩=some (.int .i64 (V)):=by
    have:=c0
    simpa [Qo,Owned.struct,OwnedFields.cons,OwnedFields.last,Owned.int,Owned.bool,Owned.list,Int.add_assoc] using this
   replace c1:w.cell? ⟨b,o+j*2+1,none⟩=some (.int .i64 (V+1)):=by
    have:=c1
    simpa [Qo,Owned.struct,OwnedFields.cons,OwnedFields.last,Owned.int,Owned.bool,Owned.list,Int.add_assoc] using this
   clear hs  hx hr
   go_wp2_with fail
   go_round
   case rel=>exact ⟨j+1,_,by omega,by go_num,rfl,Lib.hid (by have e1:=HST.out;have e2:=hV.out;rw [e1];rw [hct];omega)⟩
   case measure=>simp [intOf];omega
  ·obtain rfl:j=n:=by omega
   have hVR:V=R:=by
    have e1:=hV.out
    rw [List.take_of_length_le (by rw [HLEN.out];exact Nat.le_refl _),HR.out] at e1
    exact e1
   subst hVR
   go_wp2_with fail
   go_ret
   exact ⟨rfl,rfl⟩
end Go.Proofs.YtcooobnaocbdjaaGreatDoor

end
