import Derived.Test.YtcooobnaocbdjaaGreatDoorJoin24
import Derived.Test.YtcooobnaocbdjaaGreatDoorJoin42
import Derived.Test.YtcooobnaocbdjaaGreatDoorJoin27
set_option maxRecDepth 100000
set_option maxHeartbeats 6400000
set_option linter.unusedSimpArgs false
set_option linter.unusedVariables false
namespace Go.Proofs.YtcooobnaocbdjaaGreatDoor
open Go.RowKit
theorem Qjr {F:Foot} {wa w8 w1 w9:World} (h1:Touched F wa w8) (hb:Below w8.heap.size w8 w1) (h2:Touched F w1 w9) (hF : ∀ b o,F b o->b<wa.heap.size) : ∃ wy,Below wa.heap.size wa wy/\Touched F wy w9:=by
 have hs1:w8.heap.size=wa.heap.size:=h1.size
 have hs9:wa.heap.size<=w9.heap.size:=by rw [h2.size];have:=hb.size;omega
 have hy : ∀ b,({ w9 with heap:=wa.heap ++ w9.heap.extract wa.heap.size w9.heap.size }:World).heap[b]? = if b<wa.heap.size then wa.heap[b]? else w9.heap[b]?:=fun b=>by
  show (wa.heap ++ w9.heap.extract wa.heap.size w9.heap.size)[b]? = _
  by_cases hlt:b<wa.heap.size
  ·rw [if_pos hlt,Array.getElem?_append_left hlt]
  ·rw [if_neg hlt,Array.getElem?_append_right (by omega),Array.getElem?_extract]
   by_cases h9:b<w9.heap.size
   ·rw [if_pos (by omega)]
    congr 1
    omega
   ·rw [if_neg (by omega),Array.getElem?_eq_none (by omega)]
 have hlo : ∀ b,b<wa.heap.size->({ w9 with heap:=wa.heap ++ w9.heap.extract wa.heap.size w9.heap.size }:World).heap[b]? = wa.heap[b]?:=fun b h=>by rw [hy,if_pos h]
 have hhi : ∀ b,¬ b<wa.heap.size->({ w9 with heap:=wa.heap ++ w9.heap.extract wa.heap.size w9.heap.size }:World).heap[b]? = w9.heap[b]?:=fun b h=>by rw [hy,if_neg h]
 have hsz:({ w9 with heap:=wa.heap ++ w9.heap.extract wa.heap.size w9.heap.size }:World).heap.size=w9.heap.size:=by
  show (wa.heap ++ w9.heap.extract wa.heap.size w9.heap.size).size=_
  simp
  omega
 have hcell : ∀ b o,b<wa.heap.size -> ¬ F b o->w9.cell? ⟨b,o,none⟩=wa.cell? ⟨b,o,none⟩:=fun b o hl f =>
  (h2.cell b o f).trans ((hb.cell (p:=⟨b,o,none⟩) (by show b<_;omega)).trans (h1.cell b o f))
 have hfr : ∀ b o,b<wa.heap.size->w9.frozen? ⟨b,o,none⟩=wa.frozen? ⟨b,o,none⟩:=fun b o hl =>
  (h2.frozen b o).trans ((hb.frozen (p:=⟨b,o,none⟩) (by show b<_;omega)).trans (h1.frozen b o))
 refine ⟨{ w9 with heap:=wa.heap ++ w9.heap.extract wa.heap.size w9.heap.size },⟨h2.os.trans (hb.os.trans h1.os),h2.tape.trans (hb.tape.trans h1.tape),h2.output.trans (hb.output.trans h1.output),by rw [hsz];exact hs9,fun b hl=>hlo b hl⟩,
  ⟨rfl,rfl,rfl,hsz.symm,fun b o f => ?_,fun b o => ?_,fun b f => ?_,fun b o h => ?_⟩⟩
 ·by_cases hl:b<wa.heap.size
  ·rw [hcell b o hl f]
   exact (World.cell?_of_block (a:=⟨b,o,none⟩) (hlo b hl)).symm
  ·exact (World.cell?_of_block (a:=⟨b,o,none⟩) (hhi b hl)).symm
 ·by_cases hl:b<wa.heap.size
  ·rw [hfr b o hl]
   exact (World.frozen?_of_block (a:=⟨b,o,none⟩) (hlo b hl)).symm
  ·exact (World.frozen?_of_block (a:=⟨b,o,none⟩) (hhi b hl)).symm
 ·by_cases hl:b<wa.heap.size
  ·rw [hlo b hl]
   exact (h2.block b f).trans ((hb.block b (by omega)).trans (h1.block b f))
  ·rw [hhi b hl]
 ·by_cases hl:b<wa.heap.size
  ·rw [World.cell?_of_block (a:=⟨b,o,none⟩) (hlo b hl)] at h
   have h8:=h1.some b o h
   rw [<- hb.cell (p:=⟨b,o,none⟩) (by show b<_;omega)] at h8
   exact h2.some b o h8
  ·rwa [World.cell?_of_block (a:=⟨b,o,none⟩) (hhi b hl)] at h
theorem Qjs (w:World) (F:Foot) (a:Option Addr) (n c:Nat) (xs:List Qx) (k0:Int) (h:Qk Qe F w a n xs) (hbl:Qab xs) (hk0:0<=k0) (hc:k0+(Shape.sum Qe.ct xs:Nat)<=4611686018427387904) :
  Calls Tryz.prog 89 #[.slice a n c,.int .i64 k0] w fun e w'=>e = .returned (.int .i64 (k0+(Shape.sum Qe.ct xs:Nat)))/\Qk Qe F w' a n (Owned.mkL Qe.mark Qe.ct xs k0)/\Touched F w w':=by
 obtain ⟨hb,hbe⟩:=hbl
 have HBE:=Lib.hid hbe
 clear hbe
 have hlen:=h.1
 have hbs:n+Shape.sum Qc.bulk xs<=2097152:=by rw [<- hlen];exact hb
 have hn1:n<=2097152:=by omega
 have HB:Hid (Shape.sum Qc.bulk xs<=2097152):=Lib.hid (by omega)
 clear hbs
 have HC:=Lib.hid hc
 have HLEN:=Lib.hid hlen
 obtain ⟨R,hR⟩ : ∃ R:Int,k0+(Shape.sum Qe.ct xs:Nat)=R:=⟨_,rfl⟩
 rw [hR]
 have HR:=Lib.hid hR
 by_cases hn:0<n
 ·obtain ⟨b,o,G,rfl,hm⟩:=h.marking hn
  have HM:=Lib.hid hm
  clear h hb hc hlen hm hR
  go_enter Tryz.func89,Tryz.ntmps89
  go_wp2_with fail
  go_loopw [5,1] (fun i k wr => ∃ (j:Nat) (V:Int),j<=n/\i = .int .i64 j/\k = .int .i64 V/\Hid (V=k0+(Shape.sum Qe.ct (xs.take j):Nat))/\Marking Qe F w wr b o n G (part Qe.mark Qe.ct xs k0 j)) (fun i _ _=>n-(intOf i).toNat)
  case atStart=>exact ⟨0,k0,Nat.zero_le _,rfl,rfl,Lib.hid (by simp [Shape.sum]),by rw [Qcb];exact HM.out⟩
  case round =>
   obtain ⟨j,V,hj,rfl,rfl,hV,hmk⟩:=hrel
   by_cases hlt:j<n
   ·obtain ⟨x,hx⟩ : ∃ x,xs[j]? = some x:=⟨_,List.getElem?_eq_getElem (by rw [HLEN.out];exact hlt)⟩
    have hy:=(Qdl Qe.mark Qe.ct xs k0 j (by rw [HLEN.out];exact hj)).trans hx
    obtain ⟨es,hr,hs⟩:=hmk.elems j x hy
    have hG:=hmk.inF j
    have hst:=J8 Qe.ct xs j x hx
    have hsl:=Zu Qe.ct xs (j+1)
    have hV0:0<=V:=by rw [hV.out];omega
    have hVc:V+(Qe.ct x:Nat)<=4611686018427387904:=by have h1:=HC.out;have h2:=hV.out;omega
    have hbx:Qc.bulk x<=1048576:=HBE.out x (List.mem_of_getElem? hx)
    have HST:=Lib.hid hst
    have HX:=Lib.hid hx
    have HMK:=Lib.hid hmk
    have hp:Placing b (o+j*Qe.size) Qe.size (G j) wr wr es:=⟨Touched.refl _ _,J1 hmk.there (by omega) (by have:=Q9 (s:=Qe.size) hlt;omega),hr,Qe.owns_len hs⟩
    obtain ⟨a0_,n0_,c0_,rfl,⟨x0,y0,l0⟩⟩:=Zx.1 hs
    rw [J3] at hp
    have hA : ∀ b' o',G j b' o' -> ¬ Qe8 b (o+j*2) 2 b' o':=fun b' o' g c=>(hG b' o' g).2 ⟨c.1,by have:=c.2.1;omega,by have:=Q9 (s:=2) hlt;have h3:=c.2.2;rw [J3];omega⟩
    rw [Zi] at hbx
    have hct:Qe.ct x=1+Shape.sum ownRow.ct x.2:=by simp only [Qe,Owned.struct,OwnedFields.cons,OwnedFields.last,Owned.int,Owned.bool,Owned.list] <;> omega
    rw [hct] at hVc
    have c0:=hp.range 0 _ rfl
    have f0:=(hp.there 0 (by omega)).2
    have c1:=hp.range 1 _ rfl
    have f1:=(hp.there 1 (by omega)).2
    simp only [Nat.add_zero] at c0 f0
    have hp0:=(hp.store 0 (by omega) (.int .i64 (V)))
    have m0_0:=(Qk.keep l0 (Placing.same (b:=b) (o:=o+j*2) (s:=2) (G:=G j) 0 (by omega) (.int .i64 (V)) (fun _ _ g=>g) hA))
    have HP:=Lib.hid hp0
    have HL0:=Lib.hid m0_0
    clear hp hp0 m0_0 l0
    have HCt:Hid (V+1+(Shape.sum ownRow.ct x.2:Nat)<=4611686018427387904):=Lib.hid (by omega)
    go_wp2_with fail
    clear c0 f0 c1 f1
    generalize (wr.setCell ⟨b,o+j*2,none⟩ (.int .i64 (V)))=we0 at HP HL0 |-
    refine (Qea we0 _ _ _ _ _ (V+1) HL0.out (by omega) (by omega) HCt.out).mono ?_
    rintro e w1 ⟨rfl,ho0,ht0⟩
    clear HCt
    have hpq0:=HP.out.call ht0 (fun _ _ g=>g) hA
    have l0:=ho0
    clear HP HL0 ht0
    obtain ⟨V0,hV0⟩ : ∃ V',V+1+(Shape.sum ownRow.ct x.2:Nat)=V':=⟨_,rfl⟩
    rw [hV0]
    have HV0:=Lib.hid hV0
    have hVb0:0<=V0/\V0<=4611686018427387904:=by omega
    clear hV0
    have c0:=hpq0.range 0 _ rfl
    have f0:=(hpq0.there 0 (by omega)).2
    have c1:=hpq0.range 1 _ rfl
    have f1:=(hpq0.there 1 (by omega)).2
    simp only [Nat.add_zero] at c0 f0
    have hown:=Zx (F:=G j) (d:=((V),(Owned.mkL ownRow.mark ownRow.ct x.2 (V+1)))).2 ⟨_,_,_,rfl,⟨x0,y0,l0⟩⟩
    have hmv:Qe.mark x V=((V),(Owned.mkL ownRow.mark ownRow.ct x.2 (V+1))):=by
     simp only [Qe,Owned.struct,OwnedFields.cons,OwnedFields.last,Owned.int,Owned.bool,Owned.list]
     try simp
     try (refine ⟨?_,?_⟩ <;> rfl)
    have hN:=HMK.out.step (k:=j) (es':=_) hlt (by rw [J3];exact hpq0.touched) (by rw [J3];exact hpq0.range) hown
    rw [<- hmv,hV.out,<- Qcc Qe.mark Qe.ct xs k0 j x HX.out] at hN
    have HN:=Lib.hid hN
    clear hN hown hmv
    go_wp2_with fail
    go_round
    case rel=>exact ⟨j+1,_,by omega,by go_num,rfl,Lib.hid (by have e1:=HST.out;have e2:=hV.out;have g0:=HV0.out;rw [e1];rw [hct];omega),HN.out⟩
    case measure=>simp [intOf];omega
   ·obtain rfl:j=n:=by omega
    have hVR:V=R:=by
     have e1:=hV.out
     rw [List.take_of_length_le (by rw [HLEN.out];exact Nat.le_refl _),HR.out] at e1
     exact e1
    subst hVR
    have hfin:=hmk.own
    rw [<- HLEN.out,Qdk] at hfin
    rw [HLEN.out] at hfin
    have HF:=Lib.hid hfin
    have HT:=Lib.hid hmk.touched
    clear hmk hfin
    go_wp2_with fail
    go_ret
    exact ⟨rfl,HF.out,HT.out⟩
 ·obtain rfl:n=0:=by omega
  obtain rfl:xs=[]:=List.eq_nil_of_length_eq_zero hlen
  have hR0:R=k0:=by rw [<- hR];simp [Shape.sum]
  subst hR0
  clear h hb hc hR HR HC
  go_enter Tryz.func89,Tryz.ntmps89
  go_wp2_with fail
  go_loop [5,1] (fun i k=>i = .int .i64 0/\k = .int .i64 R) (fun _ _=>0)
  case atStart=>exact ⟨rfl,rfl⟩
  case round =>
   obtain ⟨rfl,rfl⟩:=hrel
   go_wp2_with fail
   go_ret
   exact ⟨rfl,⟨rfl,.inl rfl⟩,Touched.refl _ _⟩
theorem Qjt (w:World) (B:Nat) (a:Option Addr) (n c:Nat) (xs:List Qx) (k0:Int) (h:Qb Qc (Qf B) w a n (Owned.mkL Qe.mark Qe.ct xs k0)) (hbl:Qab xs) (hk0:0<=k0) (hc:k0+(Shape.sum Qe.ct xs:Nat)<=4611686018427387904) :
  Calls Tryz.prog 94 #[.slice a n c,.int .i64 k0] w fun e w'=>e = .returned (.int .i64 (k0+(Shape.sum Qe.ct xs:Nat)))/\w=w':=by
 obtain ⟨hb,hbe⟩:=hbl
 have HBE:=Lib.hid hbe
 clear hbe
 have hlen:xs.length=n:=by rw [<- h.1,Owned.mkL_length]
 have hbs:n+Shape.sum Qc.bulk xs<=2097152:=by rw [<- hlen];exact hb
 have hn1:n<=2097152:=by omega
 have HB:Hid (Shape.sum Qc.bulk xs<=2097152):=Lib.hid (by omega)
 have HC:=Lib.hid hc
 have HLEN:=Lib.hid hlen
 have HL:=Lib.hid h
 obtain ⟨R,hR⟩ : ∃ R:Int,k0+(Shape.sum Qe.ct xs:Nat)=R:=⟨_,rfl⟩
 rw [hR]
 have HR:=Lib.hid hR
 clear h hb hc hlen hR hbs
 go_enter Tryz.func94,Tryz.ntmps94
 go_wp2_with fail
 go_loop [5,1] (fun i k => ∃ (j:Nat) (V:Int),j<=n/\i = .int .i64 j/\k = .int .i64 V/\Hid (V=k0+(Shape.sum Qe.ct (xs.take j):Nat))) (fun i _=>n-(intOf i).toNat)
 case atStart=>exact ⟨0,k0,Nat.zero_le _,rfl,rfl,Lib.hid (by simp [Shape.sum])⟩
 case round =>
  obtain ⟨j,V,hj,rfl,rfl,hV⟩:=hrel
  by_cases hlt:j<n
  ·obtain ⟨x,hx⟩ : ∃ x,xs[j]? = some x:=⟨_,List.getElem?_eq_getElem (by rw [HLEN.out];exact hlt)⟩
   obtain ⟨b,o,es,rfl,hbB,hr,hs⟩:=HL.out.2 j _ (Qd4 Qe.mark Qe.ct xs k0 j x hx)
   have hst:=J8 Qe.ct xs j x hx
   have hsl:=Zu Qe.ct xs (j+1)
   have hV0:0<=V:=by rw [hV.out];omega
   have hVc:V+(Qe.ct x:Nat)<=4611686018427387904:=by have h1:=HC.out;have h2:=hV.out;omega
   have hbx:Qc.bulk x<=1048576:=HBE.out x (List.mem_of_getElem? hx)
   have HST:=Lib.hid hst
   rw [<- hV.out] at hs
   obtain ⟨a0_,n0_,c0_,rfl,-,-,l0⟩:=Q7.1 hs
   rw [Z7] at hr
   rw [Zi] at hbx
   have hct:Qe.ct x=1+Shape.sum ownRow.ct x.2:=by simp only [Qe,Owned.struct,OwnedFields.cons,OwnedFields.last,Owned.int,Owned.bool,Owned.list] <;> omega
   rw [hct] at hVc
   have c0:=hr 0 _ rfl
   have c1:=hr 1 _ rfl
   simp only [Nat.add_zero] at c0
   have hl0:Qb Qi (Qf B) w a0_ n0_ (Owned.mkL ownRow.mark ownRow.ct x.2 (V+1)):=by
    have:=l0
    simpa [Qe,Owned.struct,OwnedFields.cons,OwnedFields.last,Owned.int,Owned.bool,Owned.list] using this
   replace c0:w.cell? ⟨b,o+j*2,none⟩=some (.int .i64 (V)):=by
    have:=c0
    simpa [Qe,Owned.struct,OwnedFields.cons,OwnedFields.last,Owned.int,Owned.bool,Owned.list,Int.add_assoc] using this
   clear hs l0 hx hr
   have hc0:=Qeb w B a0_ n0_ c0_ x.2 (V+1) hl0 (by omega) (by omega) (by omega)
   obtain ⟨V0,hV0⟩ : ∃ V',V+1+(Shape.sum ownRow.ct x.2:Nat)=V':=⟨_,rfl⟩
   rw [hV0] at hc0
   have t0:decide (V0<0)=false:=decide_eq_false (by omega)
   have HV0:=Lib.hid hV0
   have hVb0:0<=V0/\V0<=4611686018427387904:=by omega
   have HC0:=Lib.hid hc0
   clear hV0 hc0
   go_wp2_with fail
   refine HC0.out.mono ?_
   rintro e w' ⟨rfl,rfl⟩
   go_wp2_with fail
   go_round
   case rel=>exact ⟨j+1,_,by omega,by go_num,rfl,Lib.hid (by have e1:=HST.out;have e2:=hV.out;have g0:=HV0.out;rw [e1];rw [hct];omega)⟩
   case measure=>simp [intOf];omega
  ·obtain rfl:j=n:=by omega
   have hVR:V=R:=by
    have e1:=hV.out
    rw [List.take_of_length_le (by rw [HLEN.out];exact Nat.le_refl _),HR.out] at e1
    exact e1
   subst hVR
   go_wp2_with fail
   go_ret
   exact ⟨rfl,rfl⟩
theorem Qeo (x:Qx):Qe.ctT x=Shape.sum ownRow.ct x.2:=by
 simp only [Qe,Owned.struct,OwnedFields.cons,OwnedFields.last,Owned.int,Owned.bool,Owned.list]
 try omega
theorem Qbg (x:Qq):Qg.ctT x=Shape.sum Qo.ct x.2.1+Shape.sum ownOp.ct x.2.2.1+Shape.sum Qe.ct x.2.2.2.2.2.1+Shape.sum ownRow.ct x.2.2.2.2.2.2.1+Shape.sum Owned.int.ct x.2.2.2.2.2.2.2.1+Shape.sum Owned.int.ct x.2.2.2.2.2.2.2.2.1+Shape.sum Owned.int.ct x.2.2.2.2.2.2.2.2.2.1+Shape.sum Owned.int.ct x.2.2.2.2.2.2.2.2.2.2.1+Shape.sum ownRow.ct x.2.2.2.2.2.2.2.2.2.2.2.1:=by
 simp only [Qg,Owned.struct,OwnedFields.cons,OwnedFields.last,Owned.int,Owned.bool,Owned.list,Zk]
 try omega
theorem Qfv (w:World) (F:Foot) (es:List Value) (x:Qq) (k0:Int) (h:Qg.owns F w es x) (hF : ∀ b o,F b o->b<w.heap.size) (hb:Js x) (hk0:0<=k0) (hc:k0+(Qg.ctT x:Nat)<=4611686018427387904) :
  Calls Tryz.prog 26 #[.agg es.toArray,.int .i64 k0] w fun e w'=>e = .returned (.int .i64 (k0+(Qg.ctT x:Nat)))/\Qg.owns F w' es (Qg.markT x k0) /\ ∃ w1,Below w.heap.size w w1/\Touched F w1 w':=by
 obtain ⟨a0_,n0_,c0_,a1_,n1_,c1_,a2_,n2_,c2_,a3_,n3_,c3_,a4_,n4_,c4_,a5_,n5_,c5_,a6_,n6_,c6_,a7_,n7_,c7_,a8_,n8_,c8_,G0,G1,G2,G3,G4,G5,G6,G7,G8,rfl,⟨x0,y0,l0⟩,⟨x1,y1,l1⟩,⟨x2,y2,l2⟩,⟨x3,y3,l3⟩,⟨x4,y4,l4⟩,⟨x5,y5,l5⟩,⟨x6,y6,l6⟩,⟨x7,y7,l7⟩,⟨x8,y8,l8⟩,s0,s1,s2,s3,s4,s5,s6,s7,s8,ap0_1,ap0_2,ap0_3,ap0_4,ap0_5,ap0_6,ap0_7,ap0_8,ap1_2,ap1_3,ap1_4,ap1_5,ap1_6,ap1_7,ap1_8,ap2_3,ap2_4,ap2_5,ap2_6,ap2_7,ap2_8,ap3_4,ap3_5,ap3_6,ap3_7,ap3_8,ap4_5,ap4_6,ap4_7,ap4_8,ap5_6,ap5_7,ap5_8,ap6_7,ap6_8,ap7_8⟩:=Jp.1 h
 rw [Qbg] at hc |-
 obtain ⟨hb0,hb1,hb2,hb3,hb4,hb5,hb6,hb7,hb8⟩:=hb
 have ha:=(Below.refl w.heap.size w).alloc (Nat.le_refl _) (.cells #[.int .i64 x.1,.slice a0_ n0_ c0_,.slice a1_ n1_ c1_,.bool x.2.2.2.1,.bool x.2.2.2.2.1,.slice a2_ n2_ c2_,.slice a3_ n3_ c3_,.slice a4_ n4_ c4_,.slice a5_ n5_ c5_,.slice a6_ n6_ c6_,.slice a7_ n7_ c7_,.slice a8_ n8_ c8_,.int .i64 x.2.2.2.2.2.2.2.2.2.2.2.2.1,.bool x.2.2.2.2.2.2.2.2.2.2.2.2.2] 32 (0,0))
 have hb0:=heap_alloc_new w (.cells #[.int .i64 x.1,.slice a0_ n0_ c0_,.slice a1_ n1_ c1_,.bool x.2.2.2.1,.bool x.2.2.2.2.1,.slice a2_ n2_ c2_,.slice a3_ n3_ c3_,.slice a4_ n4_ c4_,.slice a5_ n5_ c5_,.slice a6_ n6_ c6_,.slice a7_ n7_ c7_,.slice a8_ n8_ c8_,.int .i64 x.2.2.2.2.2.2.2.2.2.2.2.2.1,.bool x.2.2.2.2.2.2.2.2.2.2.2.2.2] 32 (0,0))
 have l0_0:=l0.keep (.of_below ha fun b o f=>hF b o (s0 b o f))
 have l1_0:=l1.keep (.of_below ha fun b o f=>hF b o (s1 b o f))
 have l2_0:=l2.keep (.of_below ha fun b o f=>hF b o (s2 b o f))
 have l3_0:=l3.keep (.of_below ha fun b o f=>hF b o (s3 b o f))
 have l4_0:=l4.keep (.of_below ha fun b o f=>hF b o (s4 b o f))
 have l5_0:=l5.keep (.of_below ha fun b o f=>hF b o (s5 b o f))
 have l6_0:=l6.keep (.of_below ha fun b o f=>hF b o (s6 b o f))
 have l7_0:=l7.keep (.of_below ha fun b o f=>hF b o (s7 b o f))
 have l8_0:=l8.keep (.of_below ha fun b o f=>hF b o (s8 b o f))
 have HA:=Lib.hid ha
 have HB0:=Lib.hid hb0
 have L0:=Lib.hid l0_0
 have L1:=Lib.hid l1_0
 have L2:=Lib.hid l2_0
 have L3:=Lib.hid l3_0
 have L4:=Lib.hid l4_0
 have L5:=Lib.hid l5_0
 have L6:=Lib.hid l6_0
 have L7:=Lib.hid l7_0
 have L8:=Lib.hid l8_0
 have HT:Hid (Touched F (w.alloc (.cells #[.int .i64 x.1,.slice a0_ n0_ c0_,.slice a1_ n1_ c1_,.bool x.2.2.2.1,.bool x.2.2.2.2.1,.slice a2_ n2_ c2_,.slice a3_ n3_ c3_,.slice a4_ n4_ c4_,.slice a5_ n5_ c5_,.slice a6_ n6_ c6_,.slice a7_ n7_ c7_,.slice a8_ n8_ c8_,.int .i64 x.2.2.2.2.2.2.2.2.2.2.2.2.1,.bool x.2.2.2.2.2.2.2.2.2.2.2.2.2] 32 (0,0))) (w.alloc (.cells #[.int .i64 x.1,.slice a0_ n0_ c0_,.slice a1_ n1_ c1_,.bool x.2.2.2.1,.bool x.2.2.2.2.1,.slice a2_ n2_ c2_,.slice a3_ n3_ c3_,.slice a4_ n4_ c4_,.slice a5_ n5_ c5_,.slice a6_ n6_ c6_,.slice a7_ n7_ c7_,.slice a8_ n8_ c8_,.int .i64 x.2.2.2.2.2.2.2.2.2.2.2.2.1,.bool x.2.2.2.2.2.2.2.2.2.2.2.2.2] 32 (0,0)))):=Lib.hid (Touched.refl _ _)
 clear h ha hb0 l0 l0_0 l1 l1_0 l2 l2_0 l3 l3_0 l4 l4_0 l5 l5_0 l6 l6_0 l7 l7_0 l8 l8_0
 obtain ⟨V0,hV0⟩ : ∃ V',k0+(Shape.sum Qo.ct x.2.1:Nat)=V':=⟨_,rfl⟩
 have HV0:=Lib.hid hV0
 obtain ⟨V1,hV1⟩ : ∃ V',V0+(Shape.sum ownOp.ct x.2.2.1:Nat)=V':=⟨_,rfl⟩
 have HV1:=Lib.hid hV1
 obtain ⟨V2,hV2⟩ : ∃ V',V1+(Shape.sum Qe.ct x.2.2.2.2.2.1:Nat)=V':=⟨_,rfl⟩
 have HV2:=Lib.hid hV2
 obtain ⟨V3,hV3⟩ : ∃ V',V2+(Shape.sum ownRow.ct x.2.2.2.2.2.2.1:Nat)=V':=⟨_,rfl⟩
 have HV3:=Lib.hid hV3
 obtain ⟨V4,hV4⟩ : ∃ V',V3+(Shape.sum Owned.int.ct x.2.2.2.2.2.2.2.1:Nat)=V':=⟨_,rfl⟩
 have HV4:=Lib.hid hV4
 obtain ⟨V5,hV5⟩ : ∃ V',V4+(Shape.sum Owned.int.ct x.2.2.2.2.2.2.2.2.1:Nat)=V':=⟨_,rfl⟩
 have HV5:=Lib.hid hV5
 obtain ⟨V6,hV6⟩ : ∃ V',V5+(Shape.sum Owned.int.ct x.2.2.2.2.2.2.2.2.2.1:Nat)=V':=⟨_,rfl⟩
 have HV6:=Lib.hid hV6
 obtain ⟨V7,hV7⟩ : ∃ V',V6+(Shape.sum Owned.int.ct x.2.2.2.2.2.2.2.2.2.2.1:Nat)=V':=⟨_,rfl⟩
 have HV7:=Lib.hid hV7
 obtain ⟨V8,hV8⟩ : ∃ V',V7+(Shape.sum ownRow.ct x.2.2.2.2.2.2.2.2.2.2.2.1:Nat)=V':=⟨_,rfl⟩
 have HV8:=Lib.hid hV8
 have hV:k0+((Shape.sum Qo.ct x.2.1+Shape.sum ownOp.ct x.2.2.1+Shape.sum Qe.ct x.2.2.2.2.2.1+Shape.sum ownRow.ct x.2.2.2.2.2.2.1+Shape.sum Owned.int.ct x.2.2.2.2.2.2.2.1+Shape.sum Owned.int.ct x.2.2.2.2.2.2.2.2.1+Shape.sum Owned.int.ct x.2.2.2.2.2.2.2.2.2.1+Shape.sum Owned.int.ct x.2.2.2.2.2.2.2.2.2.2.1+Shape.sum ownRow.ct x.2.2.2.2.2.2.2.2.2.2.2.1:Nat):Int)=V8:=by omega
 rw [hV]
 go_enter Tryz.func26,Tryz.ntmps26
 go_wp2_with fail
 generalize hwa:w.alloc (.cells #[.int .i64 x.1,.slice a0_ n0_ c0_,.slice a1_ n1_ c1_,.bool x.2.2.2.1,.bool x.2.2.2.2.1,.slice a2_ n2_ c2_,.slice a3_ n3_ c3_,.slice a4_ n4_ c4_,.slice a5_ n5_ c5_,.slice a6_ n6_ c6_,.slice a7_ n7_ c7_,.slice a8_ n8_ c8_,.int .i64 x.2.2.2.2.2.2.2.2.2.2.2.2.1,.bool x.2.2.2.2.2.2.2.2.2.2.2.2.2] 32 (0,0))=wa at HA HB0 HT L0 L1 L2 L3 L4 L5 L6 L7 L8 |-
 have hc0:=Qm0 wa G0 a0_ n0_ c0_ x.2.1 k0 L0.out hb0 (by omega) (by omega)
 rw [HV0.out] at hc0
 have HC0:=Lib.hid hc0
 clear hc0
 refine HC0.out.mono ?_
 rintro e w1 ⟨rfl,ho,ht⟩
 clear HC0
 replace HT:=Lib.hid (HT.out.trans (ht.mono s0))
 replace L0:=Lib.hid ho
 replace L1:=Lib.hid (L1.out.keep (ht.same ap0_1))
 replace L2:=Lib.hid (L2.out.keep (ht.same ap0_2))
 replace L3:=Lib.hid (L3.out.keep (ht.same ap0_3))
 replace L4:=Lib.hid (L4.out.keep (ht.same ap0_4))
 replace L5:=Lib.hid (L5.out.keep (ht.same ap0_5))
 replace L6:=Lib.hid (L6.out.keep (ht.same ap0_6))
 replace L7:=Lib.hid (L7.out.keep (ht.same ap0_7))
 replace L8:=Lib.hid (L8.out.keep (ht.same ap0_8))
 replace HB0:=Lib.hid ((ht.block w.heap.size fun o f=>by have:=hF _ _ (s0 _ _ f);omega).trans HB0.out)
 have z2:=cell_of_row _ w.heap.size 2 _ _ _ HB0.out
 simp only [List.getElem?_toArray,List.getElem?_cons_zero,List.getElem?_cons_succ] at z2
 clear ho ht
 have hc1:=Qoe w1 G1 a1_ n1_ c1_ x.2.2.1 V0 L1.out hb1 (by omega) (by omega)
 rw [HV1.out] at hc1
 have HC1:=Lib.hid hc1
 clear hc1
 go_wp2_with fail
 clear z2
 refine HC1.out.mono ?_
 rintro e w2 ⟨rfl,ho,ht⟩
 clear HC1
 replace HT:=Lib.hid (HT.out.trans (ht.mono s1))
 replace L0:=Lib.hid (L0.out.keep (ht.same ap0_1.symm))
 replace L1:=Lib.hid ho
 replace L2:=Lib.hid (L2.out.keep (ht.same ap1_2))
 replace L3:=Lib.hid (L3.out.keep (ht.same ap1_3))
 replace L4:=Lib.hid (L4.out.keep (ht.same ap1_4))
 replace L5:=Lib.hid (L5.out.keep (ht.same ap1_5))
 replace L6:=Lib.hid (L6.out.keep (ht.same ap1_6))
 replace L7:=Lib.hid (L7.out.keep (ht.same ap1_7))
 replace L8:=Lib.hid (L8.out.keep (ht.same ap1_8))
 replace HB0:=Lib.hid ((ht.block w.heap.size fun o f=>by have:=hF _ _ (s1 _ _ f);omega).trans HB0.out)
 have z5:=cell_of_row _ w.heap.size 5 _ _ _ HB0.out
 simp only [List.getElem?_toArray,List.getElem?_cons_zero,List.getElem?_cons_succ] at z5
 clear ho ht
 have hc2:=Qjs w2 G2 a2_ n2_ c2_ x.2.2.2.2.2.1 V1 L2.out hb2 (by omega) (by omega)
 rw [HV2.out] at hc2
 have HC2:=Lib.hid hc2
 clear hc2
 go_wp2_with fail
 clear z5
 refine HC2.out.mono ?_
 rintro e w3 ⟨rfl,ho,ht⟩
 clear HC2
 replace HT:=Lib.hid (HT.out.trans (ht.mono s2))
 replace L0:=Lib.hid (L0.out.keep (ht.same ap0_2.symm))
 replace L1:=Lib.hid (L1.out.keep (ht.same ap1_2.symm))
 replace L2:=Lib.hid ho
 replace L3:=Lib.hid (L3.out.keep (ht.same ap2_3))
 replace L4:=Lib.hid (L4.out.keep (ht.same ap2_4))
 replace L5:=Lib.hid (L5.out.keep (ht.same ap2_5))
 replace L6:=Lib.hid (L6.out.keep (ht.same ap2_6))
 replace L7:=Lib.hid (L7.out.keep (ht.same ap2_7))
 replace L8:=Lib.hid (L8.out.keep (ht.same ap2_8))
 replace HB0:=Lib.hid ((ht.block w.heap.size fun o f=>by have:=hF _ _ (s2 _ _ f);omega).trans HB0.out)
 have z6:=cell_of_row _ w.heap.size 6 _ _ _ HB0.out
 simp only [List.getElem?_toArray,List.getElem?_cons_zero,List.getElem?_cons_succ] at z6
 clear ho ht
 have hc3:=Qea w3 G3 a3_ n3_ c3_ x.2.2.2.2.2.2.1 V2 L3.out hb3 (by omega) (by omega)
 rw [HV3.out] at hc3
 have HC3:=Lib.hid hc3
 clear hc3
 go_wp2_with fail
 clear z6
 refine HC3.out.mono ?_
 rintro e w4 ⟨rfl,ho,ht⟩
 clear HC3
 replace HT:=Lib.hid (HT.out.trans (ht.mono s3))
 replace L0:=Lib.hid (L0.out.keep (ht.same ap0_3.symm))
 replace L1:=Lib.hid (L1.out.keep (ht.same ap1_3.symm))
 replace L2:=Lib.hid (L2.out.keep (ht.same ap2_3.symm))
 replace L3:=Lib.hid ho
 replace L4:=Lib.hid (L4.out.keep (ht.same ap3_4))
 replace L5:=Lib.hid (L5.out.keep (ht.same ap3_5))
 replace L6:=Lib.hid (L6.out.keep (ht.same ap3_6))
 replace L7:=Lib.hid (L7.out.keep (ht.same ap3_7))
 replace L8:=Lib.hid (L8.out.keep (ht.same ap3_8))
 replace HB0:=Lib.hid ((ht.block w.heap.size fun o f=>by have:=hF _ _ (s3 _ _ f);omega).trans HB0.out)
 have z7:=cell_of_row _ w.heap.size 7 _ _ _ HB0.out
 simp only [List.getElem?_toArray,List.getElem?_cons_zero,List.getElem?_cons_succ] at z7
 clear ho ht
 have hc4:=Qac w4 G4 a4_ n4_ c4_ x.2.2.2.2.2.2.2.1 V3 L4.out hb4 (by omega) (by omega)
 rw [HV4.out] at hc4
 have HC4:=Lib.hid hc4
 clear hc4
 go_wp2_with fail
 clear z7
 refine HC4.out.mono ?_
 rintro e w5 ⟨rfl,ho,ht⟩
 clear HC4
 replace HT:=Lib.hid (HT.out.trans (ht.mono s4))
 replace L0:=Lib.hid (L0.out.keep (ht.same ap0_4.symm))
 replace L1:=Lib.hid (L1.out.keep (ht.same ap1_4.symm))
 replace L2:=Lib.hid (L2.out.keep (ht.same ap2_4.symm))
 replace L3:=Lib.hid (L3.out.keep (ht.same ap3_4.symm))
 replace L4:=Lib.hid ho
 replace L5:=Lib.hid (L5.out.keep (ht.same ap4_5))
 replace L6:=Lib.hid (L6.out.keep (ht.same ap4_6))
 replace L7:=Lib.hid (L7.out.keep (ht.same ap4_7))
 replace L8:=Lib.hid (L8.out.keep (ht.same ap4_8))
 replace HB0:=Lib.hid ((ht.block w.heap.size fun o f=>by have:=hF _ _ (s4 _ _ f);omega).trans HB0.out)
 have z8:=cell_of_row _ w.heap.size 8 _ _ _ HB0.out
 simp only [List.getElem?_toArray,List.getElem?_cons_zero,List.getElem?_cons_succ] at z8
 clear ho ht
 have hc5:=Qac w5 G5 a5_ n5_ c5_ x.2.2.2.2.2.2.2.2.1 V4 L5.out hb5 (by omega) (by omega)
 rw [HV5.out] at hc5
 have HC5:=Lib.hid hc5
 clear hc5
 go_wp2_with fail
 clear z8
 refine HC5.out.mono ?_
 rintro e w6 ⟨rfl,ho,ht⟩
 clear HC5
 replace HT:=Lib.hid (HT.out.trans (ht.mono s5))
 replace L0:=Lib.hid (L0.out.keep (ht.same ap0_5.symm))
 replace L1:=Lib.hid (L1.out.keep (ht.same ap1_5.symm))
 replace L2:=Lib.hid (L2.out.keep (ht.same ap2_5.symm))
 replace L3:=Lib.hid (L3.out.keep (ht.same ap3_5.symm))
 replace L4:=Lib.hid (L4.out.keep (ht.same ap4_5.symm))
 replace L5:=Lib.hid ho
 replace L6:=Lib.hid (L6.out.keep (ht.same ap5_6))
 replace L7:=Lib.hid (L7.out.keep (ht.same ap5_7))
 replace L8:=Lib.hid (L8.out.keep (ht.same ap5_8))
 replace HB0:=Lib.hid ((ht.block w.heap.size fun o f=>by have:=hF _ _ (s5 _ _ f);omega).trans HB0.out)
 have z9:=cell_of_row _ w.heap.size 9 _ _ _ HB0.out
 simp only [List.getElem?_toArray,List.getElem?_cons_zero,List.getElem?_cons_succ] at z9
 clear ho ht
 have hc6:=Qac w6 G6 a6_ n6_ c6_ x.2.2.2.2.2.2.2.2.2.1 V5 L6.out hb6 (by omega) (by omega)
 rw [HV6.out] at hc6
 have HC6:=Lib.hid hc6
 clear hc6
 go_wp2_with fail
 clear z9
 refine HC6.out.mono ?_
 rintro e w7 ⟨rfl,ho,ht⟩
 clear HC6
 replace HT:=Lib.hid (HT.out.trans (ht.mono s6))
 replace L0:=Lib.hid (L0.out.keep (ht.same ap0_6.symm))
 replace L1:=Lib.hid (L1.out.keep (ht.same ap1_6.symm))
 replace L2:=Lib.hid (L2.out.keep (ht.same ap2_6.symm))
 replace L3:=Lib.hid (L3.out.keep (ht.same ap3_6.symm))
 replace L4:=Lib.hid (L4.out.keep (ht.same ap4_6.symm))
 replace L5:=Lib.hid (L5.out.keep (ht.same ap5_6.symm))
 replace L6:=Lib.hid ho
 replace L7:=Lib.hid (L7.out.keep (ht.same ap6_7))
 replace L8:=Lib.hid (L8.out.keep (ht.same ap6_8))
 replace HB0:=Lib.hid ((ht.block w.heap.size fun o f=>by have:=hF _ _ (s6 _ _ f);omega).trans HB0.out)
 have z10:=cell_of_row _ w.heap.size 10 _ _ _ HB0.out
 simp only [List.getElem?_toArray,List.getElem?_cons_zero,List.getElem?_cons_succ] at z10
 clear ho ht
 have hc7:=Qac w7 G7 a7_ n7_ c7_ x.2.2.2.2.2.2.2.2.2.2.1 V6 L7.out hb7 (by omega) (by omega)
 rw [HV7.out] at hc7
 have HC7:=Lib.hid hc7
 clear hc7
 go_wp2_with fail
 clear z10
 refine HC7.out.mono ?_
 rintro e w8 ⟨rfl,ho,ht⟩
 clear HC7
 replace HT:=Lib.hid (HT.out.trans (ht.mono s7))
 replace L0:=Lib.hid (L0.out.keep (ht.same ap0_7.symm))
 replace L1:=Lib.hid (L1.out.keep (ht.same ap1_7.symm))
 replace L2:=Lib.hid (L2.out.keep (ht.same ap2_7.symm))
 replace L3:=Lib.hid (L3.out.keep (ht.same ap3_7.symm))
 replace L4:=Lib.hid (L4.out.keep (ht.same ap4_7.symm))
 replace L5:=Lib.hid (L5.out.keep (ht.same ap5_7.symm))
 replace L6:=Lib.hid (L6.out.keep (ht.same ap6_7.symm))
 replace L7:=Lib.hid ho
 replace L8:=Lib.hid (L8.out.keep (ht.same ap7_8))
 replace HB0:=Lib.hid ((ht.block w.heap.size fun o f=>by have:=hF _ _ (s7 _ _ f);omega).trans HB0.out)
 have z11:=cell_of_row _ w.heap.size 11 _ _ _ HB0.out
 have z12:=cell_of_row _ w.heap.size 12 _ _ _ HB0.out
 have z13:=cell_of_row _ w.heap.size 13 _ _ _ HB0.out
 simp only [List.getElem?_toArray,List.getElem?_cons_zero,List.getElem?_cons_succ] at z11 z12 z13
 clear ho ht
 have hg:=Jb (F:=G8) (w:=w8) (d:=x.2.2.2.2.2.2.2.2.2.2.2).2 ⟨_,_,_,rfl,x8,y8,L8.out⟩
 have hs8:=HT.out.size
 have hza:=HA.out.size
 have hc8:=Qkp w8 G8 [.slice a8_ n8_ c8_,.int .i64 x.2.2.2.2.2.2.2.2.2.2.2.2.1,.bool x.2.2.2.2.2.2.2.2.2.2.2.2.2] x.2.2.2.2.2.2.2.2.2.2.2 V7 hg (fun b o f=>by have:=hF _ _ (s8 _ _ f);omega) (by rw [Zh];exact hb8) (by omega) (by rw [Qad];omega)
 rw [Qad,HV8.out] at hc8
 have HC8:=Lib.hid hc8
 clear hc8 hg
 go_wp2_with fail
 clear z11 z12 z13
 refine HC8.out.mono ?_
 rintro e w9 ⟨rfl,ho,wz,hbz,ht⟩
 clear HC8
 replace L0:=Lib.hid ((L0.out.keep (.of_below hbz fun b o f=>by have:=hF _ _ (s0 _ _ f);omega)).keep (ht.same ap0_8.symm))
 replace L1:=Lib.hid ((L1.out.keep (.of_below hbz fun b o f=>by have:=hF _ _ (s1 _ _ f);omega)).keep (ht.same ap1_8.symm))
 replace L2:=Lib.hid ((L2.out.keep (.of_below hbz fun b o f=>by have:=hF _ _ (s2 _ _ f);omega)).keep (ht.same ap2_8.symm))
 replace L3:=Lib.hid ((L3.out.keep (.of_below hbz fun b o f=>by have:=hF _ _ (s3 _ _ f);omega)).keep (ht.same ap3_8.symm))
 replace L4:=Lib.hid ((L4.out.keep (.of_below hbz fun b o f=>by have:=hF _ _ (s4 _ _ f);omega)).keep (ht.same ap4_8.symm))
 replace L5:=Lib.hid ((L5.out.keep (.of_below hbz fun b o f=>by have:=hF _ _ (s5 _ _ f);omega)).keep (ht.same ap5_8.symm))
 replace L6:=Lib.hid ((L6.out.keep (.of_below hbz fun b o f=>by have:=hF _ _ (s6 _ _ f);omega)).keep (ht.same ap6_8.symm))
 replace L7:=Lib.hid ((L7.out.keep (.of_below hbz fun b o f=>by have:=hF _ _ (s7 _ _ f);omega)).keep (ht.same ap7_8.symm))
 obtain ⟨az,nz,cz,ez,-,-,lz⟩:=Jb.1 ho
 simp only [List.cons.injEq,Value.slice.injEq,and_true] at ez
 obtain ⟨⟨rfl,rfl,rfl⟩,-⟩:=ez
 replace L8:=Lib.hid lz
 have hsw:=Qjr HT.out hbz (ht.mono s8) (fun b o f=>by have:=hF _ _ f;omega)
 have HSW:=Lib.hid hsw
 clear ho ht hbz hsw lz
 go_wp2_with fail
 go_ret
 have hown:=Jp (F:=F) (w:=w9) (d:=(x.1,Owned.mkL Qo.mark Qo.ct x.2.1 k0,Owned.mkL ownOp.mark ownOp.ct x.2.2.1 V0,x.2.2.2.1,x.2.2.2.2.1,Owned.mkL Qe.mark Qe.ct x.2.2.2.2.2.1 V1,Owned.mkL ownRow.mark ownRow.ct x.2.2.2.2.2.2.1 V2,Owned.mkL Owned.int.mark Owned.int.ct x.2.2.2.2.2.2.2.1 V3,Owned.mkL Owned.int.mark Owned.int.ct x.2.2.2.2.2.2.2.2.1 V4,Owned.mkL Owned.int.mark Owned.int.ct x.2.2.2.2.2.2.2.2.2.1 V5,Owned.mkL Owned.int.mark Owned.int.ct x.2.2.2.2.2.2.2.2.2.2.1 V6,Owned.mkL ownRow.mark ownRow.ct x.2.2.2.2.2.2.2.2.2.2.2.1 V7,x.2.2.2.2.2.2.2.2.2.2.2.2.1,x.2.2.2.2.2.2.2.2.2.2.2.2.2)).2 ⟨_,_,_,_,_,_,_,_,_,_,_,_,_,_,_,_,_,_,_,_,_,_,_,_,_,_,_,G0,G1,G2,G3,G4,G5,G6,G7,G8,rfl,⟨x0,y0,L0.out⟩,⟨x1,y1,L1.out⟩,⟨x2,y2,L2.out⟩,⟨x3,y3,L3.out⟩,⟨x4,y4,L4.out⟩,⟨x5,y5,L5.out⟩,⟨x6,y6,L6.out⟩,⟨x7,y7,L7.out⟩,⟨x8,y8,L8.out⟩,s0,s1,s2,s3,s4,s5,s6,s7,s8,ap0_1,ap0_2,ap0_3,ap0_4,ap0_5,ap0_6,ap0_7,ap0_8,ap1_2,ap1_3,ap1_4,ap1_5,ap1_6,ap1_7,ap1_8,ap2_3,ap2_4,ap2_5,ap2_6,ap2_7,ap2_8,ap3_4,ap3_5,ap3_6,ap3_7,ap3_8,ap4_5,ap4_6,ap4_7,ap4_8,ap5_6,ap5_7,ap5_8,ap6_7,ap6_8,ap7_8⟩
 have hmv:Qg.markT x k0=(x.1,Owned.mkL Qo.mark Qo.ct x.2.1 k0,Owned.mkL ownOp.mark ownOp.ct x.2.2.1 V0,x.2.2.2.1,x.2.2.2.2.1,Owned.mkL Qe.mark Qe.ct x.2.2.2.2.2.1 V1,Owned.mkL ownRow.mark ownRow.ct x.2.2.2.2.2.2.1 V2,Owned.mkL Owned.int.mark Owned.int.ct x.2.2.2.2.2.2.2.1 V3,Owned.mkL Owned.int.mark Owned.int.ct x.2.2.2.2.2.2.2.2.1 V4,Owned.mkL Owned.int.mark Owned.int.ct x.2.2.2.2.2.2.2.2.2.1 V5,Owned.mkL Owned.int.mark Owned.int.ct x.2.2.2.2.2.2.2.2.2.2.1 V6,Owned.mkL ownRow.mark ownRow.ct x.2.2.2.2.2.2.2.2.2.2.2.1 V7,x.2.2.2.2.2.2.2.2.2.2.2.2.1,x.2.2.2.2.2.2.2.2.2.2.2.2.2):=by
  simp only [Qg,Owned.struct,OwnedFields.cons,OwnedFields.last,Owned.int,Owned.bool,Owned.list,Zk,<- HV0.out,<- HV1.out,<- HV2.out,<- HV3.out,<- HV4.out,<- HV5.out,<- HV6.out,<- HV7.out]
  try simp
 obtain ⟨wy,hy1,hy2⟩:=HSW.out
 rw [hmv]
 exact ⟨rfl,hown,wy,HA.out.trans (hy1.mono HA.out.size),hy2⟩
theorem Qfw (w:World) (B:Nat) (es:List Value) (x:Qq) (k0:Int) (h:Qd.reads (Qf B) w es (Qg.markT x k0)) (hB:B<=w.heap.size) (hb:Js x) (hk0:0<=k0) (hc:k0+(Qg.ctT x:Nat)<=4611686018427387904) :
  Calls Tryz.prog 28 #[.agg es.toArray,.int .i64 k0] w fun e w'=>e = .returned (.int .i64 (k0+(Qg.ctT x:Nat)))/\Below w.heap.size w w':=by
 have hmv:Qg.markT x k0=(x.1,Owned.mkL Qo.mark Qo.ct x.2.1 (k0),Owned.mkL ownOp.mark ownOp.ct x.2.2.1 (k0+(Shape.sum Qo.ct x.2.1:Nat)),x.2.2.2.1,x.2.2.2.2.1,Owned.mkL Qe.mark Qe.ct x.2.2.2.2.2.1 (k0+(Shape.sum Qo.ct x.2.1:Nat)+(Shape.sum ownOp.ct x.2.2.1:Nat)),Owned.mkL ownRow.mark ownRow.ct x.2.2.2.2.2.2.1 (k0+(Shape.sum Qo.ct x.2.1:Nat)+(Shape.sum ownOp.ct x.2.2.1:Nat)+(Shape.sum Qe.ct x.2.2.2.2.2.1:Nat)),Owned.mkL Owned.int.mark Owned.int.ct x.2.2.2.2.2.2.2.1 (k0+(Shape.sum Qo.ct x.2.1:Nat)+(Shape.sum ownOp.ct x.2.2.1:Nat)+(Shape.sum Qe.ct x.2.2.2.2.2.1:Nat)+(Shape.sum ownRow.ct x.2.2.2.2.2.2.1:Nat)),Owned.mkL Owned.int.mark Owned.int.ct x.2.2.2.2.2.2.2.2.1 (k0+(Shape.sum Qo.ct x.2.1:Nat)+(Shape.sum ownOp.ct x.2.2.1:Nat)+(Shape.sum Qe.ct x.2.2.2.2.2.1:Nat)+(Shape.sum ownRow.ct x.2.2.2.2.2.2.1:Nat)+(Shape.sum Owned.int.ct x.2.2.2.2.2.2.2.1:Nat)),Owned.mkL Owned.int.mark Owned.int.ct x.2.2.2.2.2.2.2.2.2.1 (k0+(Shape.sum Qo.ct x.2.1:Nat)+(Shape.sum ownOp.ct x.2.2.1:Nat)+(Shape.sum Qe.ct x.2.2.2.2.2.1:Nat)+(Shape.sum ownRow.ct x.2.2.2.2.2.2.1:Nat)+(Shape.sum Owned.int.ct x.2.2.2.2.2.2.2.1:Nat)+(Shape.sum Owned.int.ct x.2.2.2.2.2.2.2.2.1:Nat)),Owned.mkL Owned.int.mark Owned.int.ct x.2.2.2.2.2.2.2.2.2.2.1 (k0+(Shape.sum Qo.ct x.2.1:Nat)+(Shape.sum ownOp.ct x.2.2.1:Nat)+(Shape.sum Qe.ct x.2.2.2.2.2.1:Nat)+(Shape.sum ownRow.ct x.2.2.2.2.2.2.1:Nat)+(Shape.sum Owned.int.ct x.2.2.2.2.2.2.2.1:Nat)+(Shape.sum Owned.int.ct x.2.2.2.2.2.2.2.2.1:Nat)+(Shape.sum Owned.int.ct x.2.2.2.2.2.2.2.2.2.1:Nat)),Owned.mkL ownRow.mark ownRow.ct x.2.2.2.2.2.2.2.2.2.2.2.1 (k0+(Shape.sum Qo.ct x.2.1:Nat)+(Shape.sum ownOp.ct x.2.2.1:Nat)+(Shape.sum Qe.ct x.2.2.2.2.2.1:Nat)+(Shape.sum ownRow.ct x.2.2.2.2.2.2.1:Nat)+(Shape.sum Owned.int.ct x.2.2.2.2.2.2.2.1:Nat)+(Shape.sum Owned.int.ct x.2.2.2.2.2.2.2.2.1:Nat)+(Shape.sum Owned.int.ct x.2.2.2.2.2.2.2.2.2.1:Nat)+(Shape.sum Owned.int.ct x.2.2.2.2.2.2.2.2.2.2.1:Nat)),x.2.2.2.2.2.2.2.2.2.2.2.2.1,x.2.2.2.2.2.2.2.2.2.2.2.2.2):=by
  simp only [Qg,Owned.struct,OwnedFields.cons,OwnedFields.last,Owned.int,Owned.bool,Owned.list,Zk]
  try simp
 rw [hmv] at h
 obtain ⟨a0_,n0_,c0_,a1_,n1_,c1_,a2_,n2_,c2_,a3_,n3_,c3_,a4_,n4_,c4_,a5_,n5_,c5_,a6_,n6_,c6_,a7_,n7_,c7_,a8_,n8_,c8_,rfl,⟨-,-,l0⟩,⟨-,-,l1⟩,⟨-,-,l2⟩,⟨-,-,l3⟩,⟨-,-,l4⟩,⟨-,-,l5⟩,⟨-,-,l6⟩,⟨-,-,l7⟩,⟨x8,y8,l8⟩⟩:=Qn.1 h
 rw [Qbg] at hc |-
 obtain ⟨hb0,hb1,hb2,hb3,hb4,hb5,hb6,hb7,hb8⟩:=hb
 have ha:=(Below.refl w.heap.size w).alloc (Nat.le_refl _) (.cells #[.int .i64 x.1,.slice a0_ n0_ c0_,.slice a1_ n1_ c1_,.bool x.2.2.2.1,.bool x.2.2.2.2.1,.slice a2_ n2_ c2_,.slice a3_ n3_ c3_,.slice a4_ n4_ c4_,.slice a5_ n5_ c5_,.slice a6_ n6_ c6_,.slice a7_ n7_ c7_,.slice a8_ n8_ c8_,.int .i64 x.2.2.2.2.2.2.2.2.2.2.2.2.1,.bool x.2.2.2.2.2.2.2.2.2.2.2.2.2] 32 (0,0))
 have L0:=Lib.hid (l0.below ha hB)
 have L1:=Lib.hid (l1.below ha hB)
 have L2:=Lib.hid (l2.below ha hB)
 have L3:=Lib.hid (l3.below ha hB)
 have L4:=Lib.hid (l4.below ha hB)
 have L5:=Lib.hid (l5.below ha hB)
 have L6:=Lib.hid (l6.below ha hB)
 have L7:=Lib.hid (l7.below ha hB)
 have L8:=Lib.hid (l8.below ha hB)
 have HA:=Lib.hid ha
 clear h hmv ha l0 l1 l2 l3 l4 l5 l6 l7 l8
 obtain ⟨V0,hV0⟩ : ∃ V',k0+(Shape.sum Qo.ct x.2.1:Nat)=V':=⟨_,rfl⟩
 have HV0:=Lib.hid hV0
 have t0:decide (V0<0)=false:=decide_eq_false (by omega)
 obtain ⟨V1,hV1⟩ : ∃ V',V0+(Shape.sum ownOp.ct x.2.2.1:Nat)=V':=⟨_,rfl⟩
 have HV1:=Lib.hid hV1
 rw [hV0] at L1
 have t1:decide (V1<0)=false:=decide_eq_false (by omega)
 obtain ⟨V2,hV2⟩ : ∃ V',V1+(Shape.sum Qe.ct x.2.2.2.2.2.1:Nat)=V':=⟨_,rfl⟩
 have HV2:=Lib.hid hV2
 rw [hV0,hV1] at L2
 have t2:decide (V2<0)=false:=decide_eq_false (by omega)
 obtain ⟨V3,hV3⟩ : ∃ V',V2+(Shape.sum ownRow.ct x.2.2.2.2.2.2.1:Nat)=V':=⟨_,rfl⟩
 have HV3:=Lib.hid hV3
 rw [hV0,hV1,hV2] at L3
 have t3:decide (V3<0)=false:=decide_eq_false (by omega)
 obtain ⟨V4,hV4⟩ : ∃ V',V3+(Shape.sum Owned.int.ct x.2.2.2.2.2.2.2.1:Nat)=V':=⟨_,rfl⟩
 have HV4:=Lib.hid hV4
 rw [hV0,hV1,hV2,hV3] at L4
 have t4:decide (V4<0)=false:=decide_eq_false (by omega)
 obtain ⟨V5,hV5⟩ : ∃ V',V4+(Shape.sum Owned.int.ct x.2.2.2.2.2.2.2.2.1:Nat)=V':=⟨_,rfl⟩
 have HV5:=Lib.hid hV5
 rw [hV0,hV1,hV2,hV3,hV4] at L5
 have t5:decide (V5<0)=false:=decide_eq_false (by omega)
 obtain ⟨V6,hV6⟩ : ∃ V',V5+(Shape.sum Owned.int.ct x.2.2.2.2.2.2.2.2.2.1:Nat)=V':=⟨_,rfl⟩
 have HV6:=Lib.hid hV6
 rw [hV0,hV1,hV2,hV3,hV4,hV5] at L6
 have t6:decide (V6<0)=false:=decide_eq_false (by omega)
 obtain ⟨V7,hV7⟩ : ∃ V',V6+(Shape.sum Owned.int.ct x.2.2.2.2.2.2.2.2.2.2.1:Nat)=V':=⟨_,rfl⟩
 have HV7:=Lib.hid hV7
 rw [hV0,hV1,hV2,hV3,hV4,hV5,hV6] at L7
 have t7:decide (V7<0)=false:=decide_eq_false (by omega)
 obtain ⟨V8,hV8⟩ : ∃ V',V7+(Shape.sum ownRow.ct x.2.2.2.2.2.2.2.2.2.2.2.1:Nat)=V':=⟨_,rfl⟩
 have HV8:=Lib.hid hV8
 rw [hV0,hV1,hV2,hV3,hV4,hV5,hV6,hV7] at L8
 have t8:decide (V8<0)=false:=decide_eq_false (by omega)
 have hV:k0+((Shape.sum Qo.ct x.2.1+Shape.sum ownOp.ct x.2.2.1+Shape.sum Qe.ct x.2.2.2.2.2.1+Shape.sum ownRow.ct x.2.2.2.2.2.2.1+Shape.sum Owned.int.ct x.2.2.2.2.2.2.2.1+Shape.sum Owned.int.ct x.2.2.2.2.2.2.2.2.1+Shape.sum Owned.int.ct x.2.2.2.2.2.2.2.2.2.1+Shape.sum Owned.int.ct x.2.2.2.2.2.2.2.2.2.2.1+Shape.sum ownRow.ct x.2.2.2.2.2.2.2.2.2.2.2.1:Nat):Int)=V8:=by omega
 rw [hV]
 go_enter Tryz.func28,Tryz.ntmps28
 have hc0:=Qm1 _ _ a0_ n0_ c0_ x.2.1 k0 L0.out hb0 (by omega) (by omega)
 rw [HV0.out] at hc0
 have HC0:=Lib.hid hc0
 clear hc0
 go_wp2_with fail
 refine HC0.out.mono ?_
 rintro e w1 ⟨rfl,rfl⟩
 have hc1:=Qof _ _ a1_ n1_ c1_ x.2.2.1 V0 L1.out hb1 (by omega) (by omega)
 rw [HV1.out] at hc1
 have HC1:=Lib.hid hc1
 clear hc1
 go_wp2_with fail
 refine HC1.out.mono ?_
 rintro e w2 ⟨rfl,rfl⟩
 have hc2:=Qjt _ _ a2_ n2_ c2_ x.2.2.2.2.2.1 V1 L2.out hb2 (by omega) (by omega)
 rw [HV2.out] at hc2
 have HC2:=Lib.hid hc2
 clear hc2
 go_wp2_with fail
 refine HC2.out.mono ?_
 rintro e w3 ⟨rfl,rfl⟩
 have hc3:=Qeb _ _ a3_ n3_ c3_ x.2.2.2.2.2.2.1 V2 L3.out hb3 (by omega) (by omega)
 rw [HV3.out] at hc3
 have HC3:=Lib.hid hc3
 clear hc3
 go_wp2_with fail
 refine HC3.out.mono ?_
 rintro e w4 ⟨rfl,rfl⟩
 have hc4:=Qa0 _ _ a4_ n4_ c4_ x.2.2.2.2.2.2.2.1 V3 L4.out hb4 (by omega) (by omega)
 rw [HV4.out] at hc4
 have HC4:=Lib.hid hc4
 clear hc4
 go_wp2_with fail
 refine HC4.out.mono ?_
 rintro e w5 ⟨rfl,rfl⟩
 have hc5:=Qa0 _ _ a5_ n5_ c5_ x.2.2.2.2.2.2.2.2.1 V4 L5.out hb5 (by omega) (by omega)
 rw [HV5.out] at hc5
 have HC5:=Lib.hid hc5
 clear hc5
 go_wp2_with fail
 refine HC5.out.mono ?_
 rintro e w6 ⟨rfl,rfl⟩
 have hc6:=Qa0 _ _ a6_ n6_ c6_ x.2.2.2.2.2.2.2.2.2.1 V5 L6.out hb6 (by omega) (by omega)
 rw [HV6.out] at hc6
 have HC6:=Lib.hid hc6
 clear hc6
 go_wp2_with fail
 refine HC6.out.mono ?_
 rintro e w7 ⟨rfl,rfl⟩
 have hc7:=Qa0 _ _ a7_ n7_ c7_ x.2.2.2.2.2.2.2.2.2.2.1 V6 L7.out hb7 (by omega) (by omega)
 rw [HV7.out] at hc7
 have HC7:=Lib.hid hc7
 clear hc7
 go_wp2_with fail
 refine HC7.out.mono ?_
 rintro e w8 ⟨rfl,rfl⟩
 have hg:Je.reads (Qf B) _ [.slice a8_ n8_ c8_,.int .i64 x.2.2.2.2.2.2.2.2.2.2.2.2.1,.bool x.2.2.2.2.2.2.2.2.2.2.2.2.2] (Zk.markT x.2.2.2.2.2.2.2.2.2.2.2 V7):=Q6.2 ⟨_,_,_,rfl,x8,y8,L8.out⟩
 have hc8:=Qkq _ _ [.slice a8_ n8_ c8_,.int .i64 x.2.2.2.2.2.2.2.2.2.2.2.2.1,.bool x.2.2.2.2.2.2.2.2.2.2.2.2.2] x.2.2.2.2.2.2.2.2.2.2.2 V7 hg (Nat.le_trans hB HA.out.size) (by rw [Zh];exact hb8) (by omega) (by rw [Qad];omega)
 rw [Qad,HV8.out] at hc8
 have HC8:=Lib.hid hc8
 clear hc8 hg
 go_wp2_with fail
 refine HC8.out.mono ?_
 rintro e w9 ⟨rfl,hbz⟩
 have HBZ:=Lib.hid (HA.out.trans (hbz.mono HA.out.size))
 clear hbz
 go_wp2_with fail
 go_ret
 exact ⟨rfl,HBZ.out⟩
end Go.Proofs.YtcooobnaocbdjaaGreatDoor
