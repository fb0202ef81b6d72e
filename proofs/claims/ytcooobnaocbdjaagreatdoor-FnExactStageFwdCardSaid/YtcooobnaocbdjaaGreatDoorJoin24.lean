import Derived.Test.YtcooobnaocbdjaaGreatDoorJoin23
/-! YtcooobnaocbdjaaGreatDoorPMark -/
section
set_option maxRecDepth 100000
set_option maxHeartbeats 6400000
set_option linter.unusedSimpArgs false
set_option linter.unusedVariables false
namespace Go.Proofs.YtcooobnaocbdjaaGreatDoor
open Go.RowKit
theorem Qdv (xs:List Int):Shape.sum Owned.int.ct xs=xs.length:=by
 induction xs with
 | nil=>rfl
 | cons x xs ih =>
  show 1+Shape.sum Owned.int.ct xs=_
  rw [ih]
  simp
  omega
theorem Qac (w:World) (F:Foot) (a:Option Addr) (n c:Nat) (xs:List Int) (k0:Int) (h:Qk Owned.int F w a n xs) (hb:(Shape.list Shape.int).bulk xs<=1048576) (hk0:0<=k0) (hc:k0+(Shape.sum Owned.int.ct xs:Nat)<=4611686018427387904) :
  Calls Tryz.prog 27 #[.slice a n c,.int .i64 k0] w fun e w'=>e = .returned (.int .i64 (k0+(Shape.sum Owned.int.ct xs:Nat)))/\Qk Owned.int F w' a n (Owned.mkL Owned.int.mark Owned.int.ct xs k0)/\Touched F w w':=by
 have hlen:=h.1
 rw [Ql,hlen] at hb
 rw [Qdv,hlen] at hc |-
 have HLEN:=Lib.hid hlen
 by_cases hn:0<n
 ·obtain ⟨b,o,G,rfl,hm⟩:=h.marking hn
  have HM:=Lib.hid hm
  clear h hlen hm
  go_enter Tryz.func27,Tryz.ntmps27
  go_wp2_with fail
  go_loopw [5,1] (fun i k wr => ∃ j:Nat,j<=n/\i = .int .i64 j/\k = .int .i64 (k0+j)/\Marking Owned.int F w wr b o n G (part Owned.int.mark Owned.int.ct xs k0 j)) (fun i _ _=>n-(intOf i).toNat)
  case atStart=>exact ⟨0,Nat.zero_le _,rfl,by simp,by rw [Qcb];exact HM.out⟩
  case round =>
   obtain ⟨j,hj,rfl,rfl,hmk⟩:=hrel
   by_cases hlt:j<n
   ·obtain ⟨x,hx⟩ : ∃ x,xs[j]? = some x:=⟨_,List.getElem?_eq_getElem (by rw [HLEN.out];exact hlt)⟩
    have hy:=(Qdl Owned.int.mark Owned.int.ct xs k0 j (by rw [HLEN.out];exact hj)).trans hx
    obtain ⟨es,hr,hs⟩:=hmk.elems j x hy
    have hs':es=[.int .i64 x]:=hs
    subst hs'
    have hth:=Zl hmk.there j (by show j<n*1;omega)
    obtain ⟨⟨u,hu⟩,hf⟩:=hth
    have hp:Placing b (o+j*Owned.int.size) Owned.int.size (G j) wr wr [.int .i64 x]:=⟨Touched.refl _ _,J1 hmk.there (by omega) (by have:=Q9 (s:=Owned.int.size) hlt;omega),hr,rfl⟩
    have hps:=hp.store 0 (by decide) (.int .i64 (k0+j))
    have hN:=hmk.step (k:=j) (x':=k0+j) hlt hps.touched hps.range rfl
    have hct:(Shape.sum Owned.int.ct (xs.take j):Nat)=j:=by rw [Qdv,List.length_take,HLEN.out];omega
    have hps2:=Qcc Owned.int.mark Owned.int.ct xs k0 j x hx
    rw [hct] at hps2
    have hmv:Owned.int.mark x (k0+j)=k0+j:=rfl
    rw [hmv] at hps2
    rw [<- hps2] at hN
    have e1:o+j*Owned.int.size+0=o+j:=by show o+j*1+0=o+j;omega
    rw [e1] at hN
    have HN:=Lib.hid hN
    clear hmk hr hs hp hps hN hct hps2 hmv e1 hx hy
    go_wp2_with fail
    go_round
    case rel=>exact ⟨j+1,by omega,by go_num,by congr 1;omega,HN.out⟩
    case measure=>simp [intOf];omega
   ·obtain rfl:j=n:=by omega
    have hfin:=hmk.own
    rw [<- HLEN.out,Qdk] at hfin
    rw [HLEN.out] at hfin
    have HF:=Lib.hid hfin
    have HT:=Lib.hid hmk.touched
    clear hmk hfin
    go_wp2_with fail
    go_ret
    exact ⟨rfl,HF.out,HT.out⟩
 ·obtain rfl:n=0:=by omega
  obtain rfl:xs=[]:=List.eq_nil_of_length_eq_zero hlen
  clear h hb hc
  go_enter Tryz.func27,Tryz.ntmps27
  go_wp2_with fail
  go_loop [5,1] (fun i k=>i = .int .i64 0/\k = .int .i64 k0) (fun _ _=>0)
  case atStart=>exact ⟨rfl,rfl⟩
  case round =>
   obtain ⟨rfl,rfl⟩:=hrel
   go_wp2_with fail
   go_ret
   exact ⟨by simp,⟨rfl,.inl rfl⟩,Touched.refl _ _⟩
theorem Qlf : ∀ (xs:List Int) (k:Int),Owned.mkL Owned.int.mark Owned.int.ct xs k=Qna k xs.length
 | [],k=>rfl
 | x::xs,k=>by
  show k::Owned.mkL Owned.int.mark Owned.int.ct xs (k+1)=_
  rw [Qlf xs (k+1)]
  unfold Qna
  rw [List.length_cons,List.range_succ_eq_map,List.map_cons,List.map_map]
  congr 1
  ·simp
  ·refine List.map_congr_left fun j _ => ?_
   simp only [Function.comp]
   push_cast
   omega
theorem Qa0 (w:World) (B:Nat) (a:Option Addr) (n c:Nat) (xs:List Int) (k0:Int) (h:Qb Shape.int (Qf B) w a n (Owned.mkL Owned.int.mark Owned.int.ct xs k0)) (hb:(Shape.list Shape.int).bulk xs<=1048576) (hk0:0<=k0) (hc:k0+(Shape.sum Owned.int.ct xs:Nat)<=4611686018427387904) :
  Calls Tryz.prog 96 #[.slice a n c,.int .i64 k0] w fun e w'=>e = .returned (.int .i64 (k0+(Shape.sum Owned.int.ct xs:Nat)))/\w=w':=by
 have hlen:xs.length=n:=by rw [<- h.1,Owned.mkL_length]
 rw [Ql,hlen] at hb
 rw [Qdv,hlen]
 rw [Qdv,hlen] at hc
 rw [Qlf,hlen] at h
 exact Qig B w a n c k0 (h.ints hb) hk0 (by omega)
theorem Qoe (w:World) (F:Foot) (a:Option Addr) (n c:Nat) (xs:List dOp) (k0:Int) (h:Qk ownOp F w a n xs) (hb:(Shape.list shOp).bulk xs<=1048576) (hk0:0<=k0) (hc:k0+(Shape.sum ownOp.ct xs:Nat)<=4611686018427387904) :
  Calls Tryz.prog 88 #[.slice a n c,.int .i64 k0] w fun e w'=>e = .returned (.int .i64 (k0+(Shape.sum ownOp.ct xs:Nat)))/\Qk ownOp F w' a n (Owned.mkL ownOp.mark ownOp.ct xs k0)/\Touched F w w':=by
 have hlen:=h.1
 have hbs:n+Shape.sum shOp.bulk xs<=1048576:=by rw [<- hlen];exact hb
 have hn1:n<=1048576:=by omega
 have HB:Hid (Shape.sum shOp.bulk xs<=1048576):=Lib.hid (by omega)
 clear hbs
 have HC:=Lib.hid hc
 have HLEN:=Lib.hid hlen
 obtain ⟨R,hR⟩ : ∃ R:Int,k0+(Shape.sum ownOp.ct xs:Nat)=R:=⟨_,rfl⟩
 rw [hR]
 have HR:=Lib.hid hR
 by_cases hn:0<n
 ·obtain ⟨b,o,G,rfl,hm⟩:=h.marking hn
  have HM:=Lib.hid hm
  clear h hb hc hlen hm hR
  go_enter Tryz.func88,Tryz.ntmps88
  go_wp2_with fail
  go_loopw [5,1] (fun i k wr => ∃ (j:Nat) (V:Int),j<=n/\i = .int .i64 j/\k = .int .i64 V/\Hid (V=k0+(Shape.sum ownOp.ct (xs.take j):Nat))/\Marking ownOp F w wr b o n G (part ownOp.mark ownOp.ct xs k0 j)) (fun i _ _=>n-(intOf i).toNat)
  case atStart=>exact ⟨0,k0,Nat.zero_le _,rfl,rfl,Lib.hid (by simp [Shape.sum]),by rw [Qcb];exact HM.out⟩
  case round =>
   obtain ⟨j,V,hj,rfl,rfl,hV,hmk⟩:=hrel
   by_cases hlt:j<n
   ·obtain ⟨x,hx⟩ : ∃ x,xs[j]? = some x:=⟨_,List.getElem?_eq_getElem (by rw [HLEN.out];exact hlt)⟩
    have hy:=(Qdl ownOp.mark ownOp.ct xs k0 j (by rw [HLEN.out];exact hj)).trans hx
    obtain ⟨es,hr,hs⟩:=hmk.elems j x hy
    have hG:=hmk.inF j
    have hst:=J8 ownOp.ct xs j x hx
    have hsl:=Zu ownOp.ct xs (j+1)
    have hV0:0<=V:=by rw [hV.out];omega
    have hVc:V+(ownOp.ct x:Nat)<=4611686018427387904:=by have h1:=HC.out;have h2:=hV.out;omega
    have hbx:shOp.bulk x<=1048576:=by have h1:=Qz shOp.bulk xs j x hx;have h2:=HB.out;omega
    have HST:=Lib.hid hst
    have HX:=Lib.hid hx
    have HMK:=Lib.hid hmk
    have hp:Placing b (o+j*ownOp.size) ownOp.size (G j) wr wr es:=⟨Touched.refl _ _,J1 hmk.there (by omega) (by have:=Q9 (s:=ownOp.size) hlt;omega),hr,ownOp.owns_len hs⟩
    obtain ⟨a0_,n0_,c0_,rfl,⟨x0,y0,l0⟩⟩:=Qbv.1 hs
    rw [Qaz] at hp
    have hA : ∀ b' o',G j b' o' -> ¬ Qe8 b (o+j*4) 4 b' o':=fun b' o' g c=>(hG b' o' g).2 ⟨c.1,by have:=c.2.1;omega,by have:=Q9 (s:=4) hlt;have h3:=c.2.2;rw [Qaz];omega⟩
    rw [Z6] at hbx
    have hct:ownOp.ct x=3+Shape.sum Owned.int.ct x.2.2.2:=by simp only [ownOp,Owned.struct,OwnedFields.cons,OwnedFields.last,Owned.int,Owned.bool,Owned.list] <;> omega
    rw [hct] at hVc
    have c0:=hp.range 0 _ rfl
    have f0:=(hp.there 0 (by omega)).2
    have c1:=hp.range 1 _ rfl
    have f1:=(hp.there 1 (by omega)).2
    have c2:=hp.range 2 _ rfl
    have f2:=(hp.there 2 (by omega)).2
    have c3:=hp.range 3 _ rfl
    have f3:=(hp.there 3 (by omega)).2
    simp only [Nat.add_zero] at c0 f0
    have hp0:=(((hp.store 0 (by omega) (.int .i64 (V))).store 1 (by omega) (.int .i64 (V+1))).store 2 (by omega) (.int .i64 (V+1+1)))
    have m0_0:=(Qk.keep (Qk.keep (Qk.keep l0 (Placing.same (b:=b) (o:=o+j*4) (s:=4) (G:=G j) 0 (by omega) (.int .i64 (V)) (fun _ _ g=>g) hA)) (Placing.same (b:=b) (o:=o+j*4) (s:=4) (G:=G j) 1 (by omega) (.int .i64 (V+1)) (fun _ _ g=>g) hA)) (Placing.same (b:=b) (o:=o+j*4) (s:=4) (G:=G j) 2 (by omega) (.int .i64 (V+1+1)) (fun _ _ g=>g) hA))
    have HP:=Lib.hid hp0
    have HL0:=Lib.hid m0_0
    clear hp hp0 m0_0 l0
    have HCt:Hid (V+1+1+1+(Shape.sum Owned.int.ct x.2.2.2:Nat)<=4611686018427387904):=Lib.hid (by omega)
    go_wp2_with fail
    clear c0 f0 c1 f1 c2 f2 c3 f3
    generalize (((wr.setCell ⟨b,o+j*4,none⟩ (.int .i64 (V))).setCell ⟨b,o+j*4+1,none⟩ (.int .i64 (V+1))).setCell ⟨b,o+j*4+2,none⟩ (.int .i64 (V+1+1)))=we0 at HP HL0 |-
    refine (Qac we0 _ _ _ _ _ (V+1+1+1) HL0.out (by omega) (by omega) HCt.out).mono ?_
    rintro e w1 ⟨rfl,ho0,ht0⟩
    clear HCt
    have hpq0:=HP.out.call ht0 (fun _ _ g=>g) hA
    have l0:=ho0
    clear HP HL0 ht0
    obtain ⟨V0,hV0⟩ : ∃ V',V+1+1+1+(Shape.sum Owned.int.ct x.2.2.2:Nat)=V':=⟨_,rfl⟩
    rw [hV0]
    have HV0:=Lib.hid hV0
    have hVb0:0<=V0/\V0<=4611686018427387904:=by omega
    clear hV0
    have c0:=hpq0.range 0 _ rfl
    have f0:=(hpq0.there 0 (by omega)).2
    have c1:=hpq0.range 1 _ rfl
    have f1:=(hpq0.there 1 (by omega)).2
    have c2:=hpq0.range 2 _ rfl
    have f2:=(hpq0.there 2 (by omega)).2
    have c3:=hpq0.range 3 _ rfl
    have f3:=(hpq0.there 3 (by omega)).2
    simp only [Nat.add_zero] at c0 f0
    have hown:=Qbv (F:=G j) (d:=((V),(V+1),(V+1+1),(Owned.mkL Owned.int.mark Owned.int.ct x.2.2.2 (V+1+1+1)))).2 ⟨_,_,_,rfl,⟨x0,y0,l0⟩⟩
    have hmv:ownOp.mark x V=((V),(V+1),(V+1+1),(Owned.mkL Owned.int.mark Owned.int.ct x.2.2.2 (V+1+1+1))):=by
     simp only [ownOp,Owned.struct,OwnedFields.cons,OwnedFields.last,Owned.int,Owned.bool,Owned.list]
     try simp
     try (refine ⟨?_,?_⟩ <;> rfl)
    have hN:=HMK.out.step (k:=j) (es':=_) hlt (by rw [Qaz];exact hpq0.touched) (by rw [Qaz];exact hpq0.range) hown
    rw [<- hmv,hV.out,<- Qcc ownOp.mark ownOp.ct xs k0 j x HX.out] at hN
    have HN:=Lib.hid hN
    clear hN hown hmv
    go_wp2_with fail
    go_round
    case rel=>exact ⟨j+1,_,by omega,by go_num,rfl,Lib.hid (by have e1:=HST.out;have e2:=hV.out;have g0:=HV0.out;rw [e1];rw [hct];omega),HN.out⟩
    case measure=>simp [intOf];omega
   ·obtain rfl:j=n:=by omega
    have hVR:V=R:=by
     have e1:=hV.out
     rw [List.take_of_length_le (by rw [HLEN.out];exact Nat.le_refl _),HR.out] at e1
     exact e1
    subst hVR
    have hfin:=hmk.own
    rw [<- HLEN.out,Qdk] at hfin
    rw [HLEN.out] at hfin
    have HF:=Lib.hid hfin
    have HT:=Lib.hid hmk.touched
    clear hmk hfin
    go_wp2_with fail
    go_ret
    exact ⟨rfl,HF.out,HT.out⟩
 ·obtain rfl:n=0:=by omega
  obtain rfl:xs=[]:=List.eq_nil_of_length_eq_zero hlen
  have hR0:R=k0:=by rw [<- hR];simp [Shape.sum]
  subst hR0
  clear h hb hc hR HR HC
  go_enter Tryz.func88,Tryz.ntmps88
  go_wp2_with fail
  go_loop [5,1] (fun i k=>i = .int .i64 0/\k = .int .i64 R) (fun _ _=>0)
  case atStart=>exact ⟨rfl,rfl⟩
  case round =>
   obtain ⟨rfl,rfl⟩:=hrel
   go_wp2_with fail
   go_ret
   exact ⟨rfl,⟨rfl,.inl rfl⟩,Touched.refl _ _⟩
theorem Qof (w:World) (B:Nat) (a:Option Addr) (n c:Nat) (xs:List dOp) (k0:Int) (h:Qb shOp (Qf B) w a n (Owned.mkL ownOp.mark ownOp.ct xs k0)) (hb:(Shape.list shOp).bulk xs<=1048576) (hk0:0<=k0) (hc:k0+(Shape.sum ownOp.ct xs:Nat)<=4611686018427387904) :
  Calls Tryz.prog 93 #[.slice a n c,.int .i64 k0] w fun e w'=>e = .returned (.int .i64 (k0+(Shape.sum ownOp.ct xs:Nat)))/\w=w':=by
 have hlen:xs.length=n:=by rw [<- h.1,Owned.mkL_length]
 have hbs:n+Shape.sum shOp.bulk xs<=1048576:=by rw [<- hlen];exact hb
 have hn1:n<=1048576:=by omega
 have HB:Hid (Shape.sum shOp.bulk xs<=1048576):=Lib.hid (by omega)
 have HC:=Lib.hid hc
 have HLEN:=Lib.hid hlen
 have HL:=Lib.hid h
 obtain ⟨R,hR⟩ : ∃ R:Int,k0+(Shape.sum ownOp.ct xs:Nat)=R:=⟨_,rfl⟩
 rw [hR]
 have HR:=Lib.hid hR
 clear h hb hc hlen hR hbs
 go_enter Tryz.func93,Tryz.ntmps93
 go_wp2_with fail
 go_loop [5,1] (fun i k => ∃ (j:Nat) (V:Int),j<=n/\i = .int .i64 j/\k = .int .i64 V/\Hid (V=k0+(Shape.sum ownOp.ct (xs.take j):Nat))) (fun i _=>n-(intOf i).toNat)
 case atStart=>exact ⟨0,k0,Nat.zero_le _,rfl,rfl,Lib.hid (by simp [Shape.sum])⟩
 case round =>
  obtain ⟨j,V,hj,rfl,rfl,hV⟩:=hrel
  by_cases hlt:j<n
  ·obtain ⟨x,hx⟩ : ∃ x,xs[j]? = some x:=⟨_,List.getElem?_eq_getElem (by rw [HLEN.out];exact hlt)⟩
   obtain ⟨b,o,es,rfl,hbB,hr,hs⟩:=HL.out.2 j _ (Qd4 ownOp.mark ownOp.ct xs k0 j x hx)
   have hst:=J8 ownOp.ct xs j x hx
   have hsl:=Zu ownOp.ct xs (j+1)
   have hV0:0<=V:=by rw [hV.out];omega
   have hVc:V+(ownOp.ct x:Nat)<=4611686018427387904:=by have h1:=HC.out;have h2:=hV.out;omega
   have hbx:shOp.bulk x<=1048576:=by have h1:=Qz shOp.bulk xs j x hx;have h2:=HB.out;omega
   have HST:=Lib.hid hst
   rw [<- hV.out] at hs
   obtain ⟨a0_,n0_,c0_,rfl,-,-,l0⟩:=Q3.1 hs
   rw [Zd] at hr
   rw [Z6] at hbx
   have hct:ownOp.ct x=3+Shape.sum Owned.int.ct x.2.2.2:=by simp only [ownOp,Owned.struct,OwnedFields.cons,OwnedFields.last,Owned.int,Owned.bool,Owned.list] <;> omega
   rw [hct] at hVc
   have c0:=hr 0 _ rfl
   have c1:=hr 1 _ rfl
   have c2:=hr 2 _ rfl
   have c3:=hr 3 _ rfl
   simp only [Nat.add_zero] at c0
   have hl0:Qb Shape.int (Qf B) w a0_ n0_ (Owned.mkL Owned.int.mark Owned.int.ct x.2.2.2 (V+1+1+1)):=by
    have:=l0
    simpa [ownOp,Owned.struct,OwnedFields.cons,OwnedFields.last,Owned.int,Owned.bool,Owned.list] using this
   replace c0:w.cell? ⟨b,o+j*4,none⟩=some (.int .i64 (V)):=by
    have:=c0
    simpa [ownOp,Owned.struct,OwnedFields.cons,OwnedFields.last,Owned.int,Owned.bool,Owned.list,Int.add_assoc] using this
   replace c1:w.cell? ⟨b,o+j*4+1,none⟩=some (.int .i64 (V+1)):=by
    have:=c1
    simpa [ownOp,Owned.struct,OwnedFields.cons,OwnedFields.last,Owned.int,Owned.bool,Owned.list,Int.add_assoc] using this
   replace c2:w.cell? ⟨b,o+j*4+2,none⟩=some (.int .i64 (V+1+1)):=by
    have:=c2
    simpa [ownOp,Owned.struct,OwnedFields.cons,OwnedFields.last,Owned.int,Owned.bool,Owned.list,Int.add_assoc] using this
   clear hs l0 hx hr
   have hc0:=Qa0 w B a0_ n0_ c0_ x.2.2.2 (V+1+1+1) hl0 (by omega) (by omega) (by omega)
   obtain ⟨V0,hV0⟩ : ∃ V',V+1+1+1+(Shape.sum Owned.int.ct x.2.2.2:Nat)=V':=⟨_,rfl⟩
   rw [hV0] at hc0
   have t0:decide (V0<0)=false:=decide_eq_false (by omega)
   have HV0:=Lib.hid hV0
   have hVb0:0<=V0/\V0<=4611686018427387904:=by omega
   have HC0:=Lib.hid hc0
   clear hV0 hc0
   go_wp2_with fail
   refine HC0.out.mono ?_
   rintro e w' ⟨rfl,rfl⟩
   go_wp2_with fail
   go_round
   case rel=>exact ⟨j+1,_,by omega,by go_num,rfl,Lib.hid (by have e1:=HST.out;have e2:=hV.out;have g0:=HV0.out;rw [e1];rw [hct];omega)⟩
   case measure=>simp [intOf];omega
  ·obtain rfl:j=n:=by omega
   have hVR:V=R:=by
    have e1:=hV.out
    rw [List.take_of_length_le (by rw [HLEN.out];exact Nat.le_refl _),HR.out] at e1
    exact e1
   subst hVR
   go_wp2_with fail
   go_ret
   exact ⟨rfl,rfl⟩
theorem Qjg (x:dOp):ownOp.ctT x=Shape.sum Owned.int.ct x.2.2.2:=by
 simp only [ownOp,Owned.struct,OwnedFields.cons,OwnedFields.last,Owned.int,Owned.bool,Owned.list]
 try omega
theorem Qea (w:World) (F:Foot) (a:Option Addr) (n c:Nat) (xs:List dRow) (k0:Int) (h:Qk ownRow F w a n xs) (hb:(Shape.list Qi).bulk xs<=1048576) (hk0:0<=k0) (hc:k0+(Shape.sum ownRow.ct xs:Nat)<=4611686018427387904) :
  Calls Tryz.prog 90 #[.slice a n c,.int .i64 k0] w fun e w'=>e = .returned (.int .i64 (k0+(Shape.sum ownRow.ct xs:Nat)))/\Qk ownRow F w' a n (Owned.mkL ownRow.mark ownRow.ct xs k0)/\Touched F w w':=by
 have hlen:=h.1
 have hbs:n+Shape.sum Qi.bulk xs<=1048576:=by rw [<- hlen];exact hb
 have hn1:n<=1048576:=by omega
 have HB:Hid (Shape.sum Qi.bulk xs<=1048576):=Lib.hid (by omega)
 clear hbs
 have HC:=Lib.hid hc
 have HLEN:=Lib.hid hlen
 obtain ⟨R,hR⟩ : ∃ R:Int,k0+(Shape.sum ownRow.ct xs:Nat)=R:=⟨_,rfl⟩
 rw [hR]
 have HR:=Lib.hid hR
 by_cases hn:0<n
 ·obtain ⟨b,o,G,rfl,hm⟩:=h.marking hn
  have HM:=Lib.hid hm
  clear h hb hc hlen hm hR
  go_enter Tryz.func90,Tryz.ntmps90
  go_wp2_with fail
  go_loopw [5,1] (fun i k wr => ∃ (j:Nat) (V:Int),j<=n/\i = .int .i64 j/\k = .int .i64 V/\Hid (V=k0+(Shape.sum ownRow.ct (xs.take j):Nat))/\Marking ownRow F w wr b o n G (part ownRow.mark ownRow.ct xs k0 j)) (fun i _ _=>n-(intOf i).toNat)
  case atStart=>exact ⟨0,k0,Nat.zero_le _,rfl,rfl,Lib.hid (by simp [Shape.sum]),by rw [Qcb];exact HM.out⟩
  case round =>
   obtain ⟨j,V,hj,rfl,rfl,hV,hmk⟩:=hrel
   by_cases hlt:j<n
   ·obtain ⟨x,hx⟩ : ∃ x,xs[j]? = some x:=⟨_,List.getElem?_eq_getElem (by rw [HLEN.out];exact hlt)⟩
    have hy:=(Qdl ownRow.mark ownRow.ct xs k0 j (by rw [HLEN.out];exact hj)).trans hx
    obtain ⟨es,hr,hs⟩:=hmk.elems j x hy
    have hG:=hmk.inF j
    have hst:=J8 ownRow.ct xs j x hx
    have hsl:=Zu ownRow.ct xs (j+1)
    have hV0:0<=V:=by rw [hV.out];omega
    have hVc:V+(ownRow.ct x:Nat)<=4611686018427387904:=by have h1:=HC.out;have h2:=hV.out;omega
    have hbx:Qi.bulk x<=1048576:=by have h1:=Qz Qi.bulk xs j x hx;have h2:=HB.out;omega
    have HST:=Lib.hid hst
    have HX:=Lib.hid hx
    have HMK:=Lib.hid hmk
    have hp:Placing b (o+j*ownRow.size) ownRow.size (G j) wr wr es:=⟨Touched.refl _ _,J1 hmk.there (by omega) (by have:=Q9 (s:=ownRow.size) hlt;omega),hr,ownRow.owns_len hs⟩
    obtain ⟨a0_,n0_,c0_,rfl,⟨x0,y0,l0⟩⟩:=Qa8.1 hs
    rw [Jo] at hp
    have hA : ∀ b' o',G j b' o' -> ¬ Qe8 b (o+j*1) 1 b' o':=fun b' o' g c=>(hG b' o' g).2 ⟨c.1,by have:=c.2.1;omega,by have:=Q9 (s:=1) hlt;have h3:=c.2.2;rw [Jo];omega⟩
    rw [Zs] at hbx
    have hct:ownRow.ct x=0+Shape.sum Owned.int.ct x:=by show Shape.sum _ _=_;omega
    rw [hct] at hVc
    rw [Nat.mul_one] at hp hA
    have c0:=hp.range 0 _ rfl
    have f0:=(hp.there 0 (by omega)).2
    simp only [Nat.add_zero] at c0 f0
    have HP:=Lib.hid hp
    have HL0:=Lib.hid l0
    clear hp l0
    have HCt:Hid (V+(Shape.sum Owned.int.ct x:Nat)<=4611686018427387904):=Lib.hid (by omega)
    go_wp2_with fail
    clear c0 f0
    skip
    refine (Qac wr _ _ _ _ _ (V) HL0.out (by omega) (by omega) HCt.out).mono ?_
    rintro e w1 ⟨rfl,ho0,ht0⟩
    clear HCt
    have hpq0:=HP.out.call ht0 (fun _ _ g=>g) hA
    have l0:=ho0
    clear HP HL0 ht0
    obtain ⟨V0,hV0⟩ : ∃ V',V+(Shape.sum Owned.int.ct x:Nat)=V':=⟨_,rfl⟩
    rw [hV0]
    have HV0:=Lib.hid hV0
    have hVb0:0<=V0/\V0<=4611686018427387904:=by omega
    clear hV0
    have c0:=hpq0.range 0 _ rfl
    have f0:=(hpq0.there 0 (by omega)).2
    simp only [Nat.add_zero] at c0 f0
    have hown:=Qa8 (F:=G j) (d:=(Owned.mkL Owned.int.mark Owned.int.ct x (V))).2 ⟨_,_,_,rfl,⟨x0,y0,l0⟩⟩
    have hmv:ownRow.mark x V=(Owned.mkL Owned.int.mark Owned.int.ct x (V)):=by
     simp only [ownRow,Owned.struct,OwnedFields.cons,OwnedFields.last,Owned.int,Owned.bool,Owned.list]
     try simp
     try (refine ⟨?_,?_⟩ <;> rfl)
    have hN:=HMK.out.step (k:=j) (es':=_) hlt (by rw [Jo,Nat.mul_one];exact hpq0.touched) (by rw [Jo,Nat.mul_one];exact hpq0.range) hown
    rw [<- hmv,hV.out,<- Qcc ownRow.mark ownRow.ct xs k0 j x HX.out] at hN
    have HN:=Lib.hid hN
    clear hN hown hmv
    go_wp2_with fail
    go_round
    case rel=>exact ⟨j+1,_,by omega,by go_num,rfl,Lib.hid (by have e1:=HST.out;have e2:=hV.out;have g0:=HV0.out;rw [e1];rw [hct];omega),HN.out⟩
    case measure=>simp [intOf];omega
   ·obtain rfl:j=n:=by omega
    have hVR:V=R:=by
     have e1:=hV.out
     rw [List.take_of_length_le (by rw [HLEN.out];exact Nat.le_refl _),HR.out] at e1
     exact e1
    subst hVR
    have hfin:=hmk.own
    rw [<- HLEN.out,Qdk] at hfin
    rw [HLEN.out] at hfin
    have HF:=Lib.hid hfin
    have HT:=Lib.hid hmk.touched
    clear hmk hfin
    go_wp2_with fail
    go_ret
    exact ⟨rfl,HF.out,HT.out⟩
 ·obtain rfl:n=0:=by omega
  obtain rfl:xs=[]:=List.eq_nil_of_length_eq_zero hlen
  have hR0:R=k0:=by rw [<- hR];simp [Shape.sum]
  subst hR0
  clear h hb hc hR HR HC
  go_enter Tryz.func90,Tryz.ntmps90
  go_wp2_with fail
  go_loop [5,1] (fun i k=>i = .int .i64 0/\k = .int .i64 R) (fun _ _=>0)
  case atStart=>exact ⟨rfl,rfl⟩
  case round =>
   obtain ⟨rfl,rfl⟩:=hrel
   go_wp2_with fail
   go_ret
   exact ⟨rfl,⟨rfl,.inl rfl⟩,Touched.refl _ _⟩
theorem Qeb (w:World) (B:Nat) (a:Option Addr) (n c:Nat) (xs:List dRow) (k0:Int) (h:Qb Qi (Qf B) w a n (Owned.mkL ownRow.mark ownRow.ct xs k0)) (hb:(Shape.list Qi).bulk xs<=1048576) (hk0:0<=k0) (hc:k0+(Shape.sum ownRow.ct xs:Nat)<=4611686018427387904) :
  Calls Tryz.prog 95 #[.slice a n c,.int .i64 k0] w fun e w'=>e = .returned (.int .i64 (k0+(Shape.sum ownRow.ct xs:Nat)))/\w=w':=by
 have hlen:xs.length=n:=by rw [<- h.1,Owned.mkL_length]
 have hbs:n+Shape.sum Qi.bulk xs<=1048576:=by rw [<- hlen];exact hb
 have hn1:n<=1048576:=by omega
 have HB:Hid (Shape.sum Qi.bulk xs<=1048576):=Lib.hid (by omega)
 have HC:=Lib.hid hc
 have HLEN:=Lib.hid hlen
 have HL:=Lib.hid h
 obtain ⟨R,hR⟩ : ∃ R:Int,k0+(Shape.sum ownRow.ct xs:Nat)=R:=⟨_,rfl⟩
 rw [hR]
 have HR:=Lib.hid hR
 clear h hb hc hlen hR hbs
 go_enter Tryz.func95,Tryz.ntmps95
 go_wp2_with fail
 go_loop [5,1] (fun i k => ∃ (j:Nat) (V:Int),j<=n/\i = .int .i64 j/\k = .int .i64 V/\Hid (V=k0+(Shape.sum ownRow.ct (xs.take j):Nat))) (fun i _=>n-(intOf i).toNat)
 case atStart=>exact ⟨0,k0,Nat.zero_le _,rfl,rfl,Lib.hid (by simp [Shape.sum])⟩
 case round =>
  obtain ⟨j,V,hj,rfl,rfl,hV⟩:=hrel
  by_cases hlt:j<n
  ·obtain ⟨x,hx⟩ : ∃ x,xs[j]? = some x:=⟨_,List.getElem?_eq_getElem (by rw [HLEN.out];exact hlt)⟩
   obtain ⟨b,o,es,rfl,hbB,hr,hs⟩:=HL.out.2 j _ (Qd4 ownRow.mark ownRow.ct xs k0 j x hx)
   have hst:=J8 ownRow.ct xs j x hx
   have hsl:=Zu ownRow.ct xs (j+1)
   have hV0:0<=V:=by rw [hV.out];omega
   have hVc:V+(ownRow.ct x:Nat)<=4611686018427387904:=by have h1:=HC.out;have h2:=hV.out;omega
   have hbx:Qi.bulk x<=1048576:=by have h1:=Qz Qi.bulk xs j x hx;have h2:=HB.out;omega
   have HST:=Lib.hid hst
   rw [<- hV.out] at hs
   obtain ⟨a0_,n0_,c0_,rfl,-,-,l0⟩:=Ze.1 hs
   rw [Jr] at hr
   rw [Zs] at hbx
   have hct:ownRow.ct x=0+Shape.sum Owned.int.ct x:=by show Shape.sum _ _=_;omega
   rw [hct] at hVc
   rw [Nat.mul_one] at hr
   have c0:=hr 0 _ rfl
   simp only [Nat.add_zero] at c0
   have hl0:Qb Shape.int (Qf B) w a0_ n0_ (Owned.mkL Owned.int.mark Owned.int.ct x (V)):=l0
   clear hs l0 hx hr
   have hc0:=Qa0 w B a0_ n0_ c0_ x (V) hl0 (by omega) (by omega) (by omega)
   obtain ⟨V0,hV0⟩ : ∃ V',V+(Shape.sum Owned.int.ct x:Nat)=V':=⟨_,rfl⟩
   rw [hV0] at hc0
   have t0:decide (V0<0)=false:=decide_eq_false (by omega)
   have HV0:=Lib.hid hV0
   have hVb0:0<=V0/\V0<=4611686018427387904:=by omega
   have HC0:=Lib.hid hc0
   clear hV0 hc0
   go_wp2_with fail
   refine HC0.out.mono ?_
   rintro e w' ⟨rfl,rfl⟩
   go_wp2_with fail
   go_round
   case rel=>exact ⟨j+1,_,by omega,by go_num,rfl,Lib.hid (by have e1:=HST.out;have e2:=hV.out;have g0:=HV0.out;rw [e1];rw [hct];omega)⟩
   case measure=>simp [intOf];omega
  ·obtain rfl:j=n:=by omega
   have hVR:V=R:=by
    have e1:=hV.out
    rw [List.take_of_length_le (by rw [HLEN.out];exact Nat.le_refl _),HR.out] at e1
    exact e1
   subst hVR
   go_wp2_with fail
   go_ret
   exact ⟨rfl,rfl⟩
theorem Qg2 (x:dRow):ownRow.ctT x=Shape.sum Owned.int.ct x:=by
 show Shape.sum _ _=_
 rfl
theorem Qad (x:Qat):Zk.ctT x=Shape.sum ownRow.ct x.1:=by
 simp only [Zk,Owned.struct,OwnedFields.cons,OwnedFields.last,Owned.int,Owned.bool,Owned.list]
 try omega
theorem Qkp (w:World) (F:Foot) (es:List Value) (x:Qat) (k0:Int) (h:Zk.owns F w es x) (hF : ∀ b o,F b o->b<w.heap.size) (hb:Je.bulk x<=1048576) (hk0:0<=k0) (hc:k0+(Zk.ctT x:Nat)<=4611686018427387904) :
  Calls Tryz.prog 91 #[.agg es.toArray,.int .i64 k0] w fun e w'=>e = .returned (.int .i64 (k0+(Zk.ctT x:Nat)))/\Zk.owns F w' es (Zk.markT x k0) /\ ∃ w1,Below w.heap.size w w1/\Touched F w1 w':=by
 obtain ⟨a0_,n0_,c0_,rfl,⟨x0,y0,l0⟩⟩:=Jb.1 h
 rw [Qad] at hc |-
 rw [Zh] at hb
 have ha:=(Below.refl w.heap.size w).alloc (Nat.le_refl _) (.cells #[.slice a0_ n0_ c0_,.int .i64 x.2.1,.bool x.2.2] 30 (0,0))
 have hb0:=heap_alloc_new w (.cells #[.slice a0_ n0_ c0_,.int .i64 x.2.1,.bool x.2.2] 30 (0,0))
 have l0_0:=l0.keep (.of_below ha hF)
 have HA:=Lib.hid ha
 have HB0:=Lib.hid hb0
 have L0:=Lib.hid l0_0
 have HT:Hid (Touched F (w.alloc (.cells #[.slice a0_ n0_ c0_,.int .i64 x.2.1,.bool x.2.2] 30 (0,0))) (w.alloc (.cells #[.slice a0_ n0_ c0_,.int .i64 x.2.1,.bool x.2.2] 30 (0,0)))):=Lib.hid (Touched.refl _ _)
 clear h ha hb0 l0 l0_0
 obtain ⟨V0,hV0⟩ : ∃ V',k0+(Shape.sum ownRow.ct x.1:Nat)=V':=⟨_,rfl⟩
 have HV0:=Lib.hid hV0
 have hV:k0+((Shape.sum ownRow.ct x.1:Nat):Int)=V0:=by omega
 rw [hV]
 go_enter Tryz.func91,Tryz.ntmps91
 go_wp2_with fail
 generalize hwa:w.alloc (.cells #[.slice a0_ n0_ c0_,.int .i64 x.2.1,.bool x.2.2] 30 (0,0))=wa at HA HB0 HT L0 |-
 have hc0:=Qea wa F a0_ n0_ c0_ x.1 k0 L0.out (by omega) (by omega) (by omega)
 rw [HV0.out] at hc0
 have HC0:=Lib.hid hc0
 clear hc0
 refine HC0.out.mono ?_
 rintro e w1 ⟨rfl,ho,ht⟩
 clear HC0
 replace HT:=Lib.hid (HT.out.trans (ht.mono fun _ _ g=>g))
 replace L0:=Lib.hid ho
 clear ho ht
 go_wp2_with fail
 go_ret
 have hown:=Jb (F:=F) (w:=w1) (d:=(Owned.mkL ownRow.mark ownRow.ct x.1 k0,x.2.1,x.2.2)).2 ⟨_,_,_,rfl,⟨x0,y0,L0.out⟩⟩
 have hmv:Zk.markT x k0=(Owned.mkL ownRow.mark ownRow.ct x.1 k0,x.2.1,x.2.2):=by
  simp only [Zk,Owned.struct,OwnedFields.cons,OwnedFields.last,Owned.int,Owned.bool,Owned.list]
  try simp
 rw [hmv]
 exact ⟨rfl,hown,wa,HA.out,HT.out⟩
theorem Qkq (w:World) (B:Nat) (es:List Value) (x:Qat) (k0:Int) (h:Je.reads (Qf B) w es (Zk.markT x k0)) (hB:B<=w.heap.size) (hb:Je.bulk x<=1048576) (hk0:0<=k0) (hc:k0+(Zk.ctT x:Nat)<=4611686018427387904) :
  Calls Tryz.prog 97 #[.agg es.toArray,.int .i64 k0] w fun e w'=>e = .returned (.int .i64 (k0+(Zk.ctT x:Nat)))/\Below w.heap.size w w':=by
 have hmv:Zk.markT x k0=(Owned.mkL ownRow.mark ownRow.ct x.1 (k0),x.2.1,x.2.2):=by
  simp only [Zk,Owned.struct,OwnedFields.cons,OwnedFields.last,Owned.int,Owned.bool,Owned.list]
  try simp
 rw [hmv] at h
 obtain ⟨a0_,n0_,c0_,rfl,-,-,l0⟩:=Q6.1 h
 rw [Qad] at hc |-
 rw [Zh] at hb
 have ha:=(Below.refl w.heap.size w).alloc (Nat.le_refl _) (.cells #[.slice a0_ n0_ c0_,.int .i64 x.2.1,.bool x.2.2] 30 (0,0))
 have L0:=Lib.hid (l0.below ha hB)
 have HA:=Lib.hid ha
 clear h hmv ha l0
 obtain ⟨V0,hV0⟩ : ∃ V',k0+(Shape.sum ownRow.ct x.1:Nat)=V':=⟨_,rfl⟩
 have HV0:=Lib.hid hV0
 have t0:decide (V0<0)=false:=decide_eq_false (by omega)
 have hV:k0+((Shape.sum ownRow.ct x.1:Nat):Int)=V0:=by omega
 rw [hV]
 go_enter Tryz.func97,Tryz.ntmps97
 have hc0:=Qeb _ _ a0_ n0_ c0_ x.1 k0 L0.out (by omega) (by omega) (by omega)
 rw [HV0.out] at hc0
 have HC0:=Lib.hid hc0
 clear hc0
 go_wp2_with fail
 refine HC0.out.mono ?_
 rintro e w1 ⟨rfl,rfl⟩
 go_wp2_with fail
 go_ret
 exact ⟨rfl,HA.out⟩
end Go.Proofs.YtcooobnaocbdjaaGreatDoor

end

/-! YtcooobnaocbdjaaGreatDoorPFew -/
section
set_option linter.unusedSimpArgs false
set_option linter.unusedVariables false
namespace Go.Proofs.YtcooobnaocbdjaaGreatDoor
open Go.RowKit
theorem Qh8 {α:Type} (f g:α->Nat) (h : ∀ x,f x<=16+16*g x) : ∀ l:List α,Shape.sum f l<=16*(l.length+Shape.sum g l)
 | []=>Nat.zero_le _
 | x::l=>by
  have h1:=Qh8 f g h l
  have h2:=h x
  simp only [Shape.sum,List.length_cons]
  omega
theorem Qaa (xs:List Int):Shape.sum Owned.int.ct xs<=16*(Shape.list Shape.int).bulk xs:=by
 rw [Qdv,Ql]
 omega
theorem Qog (x:dOp):ownOp.ctT x<=16*shOp.bulk x:=by
 rw [Qjg,Z6]
 have e0:=Qaa x.2.2.2
 omega
theorem Qp1 (x:dOp):ownOp.ct x=ownOp.ctT x+3:=by
 rw [Qjg]
 simp only [ownOp,Owned.struct,OwnedFields.cons,OwnedFields.last,Owned.int,Owned.bool,Owned.list]
 try omega
theorem Qoh (xs:List dOp):Shape.sum ownOp.ct xs<=16*(Shape.list shOp).bulk xs:=by
 refine Qh8 ownOp.ct shOp.bulk (fun x => ?_) xs
 rw [Qp1]
 have:=Qog x
 omega
theorem Qmo (x:dRow):ownRow.ctT x<=16*Qi.bulk x:=by
 rw [Qg2,Zs]
 have e0:=Qaa x
 omega
theorem Qoi (x:dRow):ownRow.ct x=ownRow.ctT x+0:=by
 rw [Qg2]
 simp only [ownRow,Owned.struct,OwnedFields.cons,OwnedFields.last,Owned.int,Owned.bool,Owned.list]
 try omega
theorem Qdw (xs:List dRow):Shape.sum ownRow.ct xs<=16*(Shape.list Qi).bulk xs:=by
 refine Qh8 ownRow.ct Qi.bulk (fun x => ?_) xs
 rw [Qoi]
 have:=Qmo x
 omega
end Go.Proofs.YtcooobnaocbdjaaGreatDoor

end
