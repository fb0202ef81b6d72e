import Derived.Test.YtcooobnaocbdjaaGreatDoorJoin11
import Derived.Test.YtcooobnaocbdjaaGreatDoorJoin9
set_option maxRecDepth 100000
set_option maxHeartbeats 6400000
set_option linter.unusedVariables false
namespace Go.Proofs.YtcooobnaocbdjaaGreatDoor
open Go.RowKit Go.Sort
attribute [local go_sem] Qhq Qka Qiy Qhr Qiz Qkb Qkc Qnz Qmb Qkd Qmc Qn0 Qi0 Qmd Qke Qi1 Qkf Qme Qhs Qkg Qi2 Qht Qi3 Qkh Qn2 Qmf
theorem Qn3 (w:World) (i o:Int) (a:Option Addr) (n cp:Nat) :
  Calls Tryz.prog 228 #[.agg #[.int .i64 1,.int .i64 i,.int .i64 o,.slice a n cp]] w fun e w'=>e = .returned (.iface 302 (.agg #[.int .i64 o,.int .i64 i,.slice a n cp]))/\Below w.heap.size w w':=by
 go_enter Tryz.func228,Tryz.ntmps228
 go_wp2_with fail
 go_ret
 exact ⟨rfl,((Below.refl _ _).alloc (Nat.le_refl _) _).alloc (by simp) _⟩
theorem Qk6 (w:World) (i o:Int) (a:Option Addr) (n cp:Nat) :
  Calls Tryz.prog 228 #[.agg #[.int .i64 2,.int .i64 i,.int .i64 o,.slice a n cp]] w fun e w'=>e = .returned (.iface 304 (.agg #[.slice a n cp]))/\Below w.heap.size w w':=by
 go_enter Tryz.func228,Tryz.ntmps228
 go_wp2_with fail
 go_ret
 exact ⟨rfl,((Below.refl _ _).alloc (Nat.le_refl _) _).alloc (by simp) _⟩
theorem Qk7 (w:World) (i o:Int) (a:Option Addr) (n cp:Nat) :
  Calls Tryz.prog 228 #[.agg #[.int .i64 3,.int .i64 i,.int .i64 o,.slice a n cp]] w fun e w'=>e = .returned (.iface 306 (.agg #[]))/\Below w.heap.size w w':=by
 go_enter Tryz.func228,Tryz.ntmps228
 go_wp2_with fail
 go_ret
 exact ⟨rfl,((Below.refl _ _).alloc (Nat.le_refl _) _).alloc (by simp) _⟩
theorem Qk8 (w:World) (i o:Int) (a:Option Addr) (n cp:Nat) :
  Calls Tryz.prog 228 #[.agg #[.int .i64 4,.int .i64 i,.int .i64 o,.slice a n cp]] w fun e w'=>e = .returned (.iface 307 (.agg #[.slice a n cp]))/\Below w.heap.size w w':=by
 go_enter Tryz.func228,Tryz.ntmps228
 go_wp2_with fail
 go_ret
 exact ⟨rfl,((Below.refl _ _).alloc (Nat.le_refl _) _).alloc (by simp) _⟩
theorem Qk9 (w:World) (i o:Int) (a:Option Addr) (n cp:Nat) :
  Calls Tryz.prog 228 #[.agg #[.int .i64 5,.int .i64 i,.int .i64 o,.slice a n cp]] w fun e w'=>e = .returned (.iface 309 (.agg #[.int .i64 o,.int .i64 i,.slice a n cp]))/\Below w.heap.size w w':=by
 go_enter Tryz.func228,Tryz.ntmps228
 go_wp2_with fail
 go_ret
 exact ⟨rfl,((Below.refl _ _).alloc (Nat.le_refl _) _).alloc (by simp) _⟩
theorem Qqf (w:World) (k i o:Int) (a:Option Addr) (n cp:Nat) (k1 : ¬ k=1) (k2 : ¬ k=2) (k3 : ¬ k=3) (k4 : ¬ k=4) (k5 : ¬ k=5) :
  Calls Tryz.prog 228 #[.agg #[.int .i64 k,.int .i64 i,.int .i64 o,.slice a n cp]] w fun e w'=>e = .returned .nilIface/\Below w.heap.size w w':=by
 have e1:(k == 1)=false:=by simpa using k1
 have e2:(k == 2)=false:=by simpa using k2
 have e3:(k == 3)=false:=by simpa using k3
 have e4:(k == 4)=false:=by simpa using k4
 have e5:(k == 5)=false:=by simpa using k5
 clear k1 k2 k3 k4 k5
 go_enter Tryz.func228,Tryz.ntmps228
 go_wp2_with fail
 go_ret
 exact ⟨rfl,((Below.refl _ _).alloc (Nat.le_refl _) _).alloc (by simp) _⟩
theorem Qf6 (w:World) (k i o:Int) (a:Option Addr) (n cp:Nat) (xs:List Int) (h:IntsIn w.heap.size w a n xs) (hcp:n<=cp) (hcap:cp<=9223372036854775807) :
  Calls Tryz.prog 278 #[.agg #[.int .i64 k,.int .i64 i,.int .i64 o,.slice a n cp]] w fun e w'=>e = .returned (.int .i64 (opSz k i o))/\Below w.heap.size w w':=by
 have hal:Below w.heap.size w (w.alloc (.cells #[.int .i64 k,.int .i64 i,.int .i64 o,.slice a n cp] 38 (0,0))):=(Below.refl _ _).alloc (Nat.le_refl _) _
 have hb0:=heap_alloc_new w (.cells #[.int .i64 k,.int .i64 i,.int .i64 o,.slice a n cp] 38 (0,0))
 have hs0:w.heap.size<(w.alloc (.cells #[.int .i64 k,.int .i64 i,.int .i64 o,.slice a n cp] 38 (0,0))).heap.size:=by simp
 have HS0:=Lib.hid hs0
 have HB0:=Lib.hid hb0
 have HA:=Lib.hid hal
 have HI:=Lib.hid (fun w=>Jl i w)
 have HO:=Lib.hid (fun w=>Jl o w)
 clear h hal hb0 hs0
 obtain ⟨d,hd⟩ : ∃ d,d=opSz k i o:=⟨_,rfl⟩
 rw [<- hd]
 have HD:=Lib.hid hd
 clear hd
 cases hi:inB 1 6 i with
 | false =>
  have hdf:d=0:=by rw [HD.out];exact Qhl (.inl hi)
  subst hdf
  rw [hi] at HI
  clear hi
  go_enter Tryz.func278,Tryz.ntmps278
  go_wp2_with fail
  refine (HI.out _).mono ?_
  rintro e w' ⟨rfl,rfl⟩
  go_wp2_with fail
  go_ret
  exact ⟨rfl,HA.out⟩
 | true =>
  cases ho:inB 1 6 o with
  | false =>
   have hdf:d=0:=by rw [HD.out];exact Qhl (.inr ho)
   subst hdf
   rw [hi] at HI
   rw [ho] at HO
   clear hi ho
   go_enter Tryz.func278,Tryz.ntmps278
   go_wp2_with fail
   refine (HI.out _).mono ?_
   rintro e w' ⟨rfl,rfl⟩
   go_wp2_with fail
   refine (HO.out _).mono ?_
   rintro e w' ⟨rfl,rfl⟩
   go_wp2_with fail
   go_ret
   exact ⟨rfl,HA.out⟩
  | true =>
   have hp:=Qit hi ho
   have hdd:d=(if k=1\/k=5 then i*o else if k=2 then i else if k=4 then 1 else 0):=by rw [HD.out];exact Qk4 hi ho
   have HDD:=Lib.hid hdd
   obtain ⟨Q,hQ⟩ : ∃ Q,i*o=Q:=⟨_,rfl⟩
   have hw:wrap64 (i*o)=Q:=by rw [IntWalk.wrap64_in (i*o) (by omega)];exact hQ
   have HPP:=Lib.hid hQ
   rw [hi] at HI
   rw [ho] at HO
   clear hi ho hp hdd hQ HD
   go_enter Tryz.func278,Tryz.ntmps278
   go_wp2_with fail
   refine (HI.out _).mono ?_
   rintro e w' ⟨rfl,rfl⟩
   go_wp2_with fail
   refine (HO.out _).mono ?_
   rintro e w' ⟨rfl,rfl⟩
   generalize w.alloc (.cells #[.int .i64 k,.int .i64 i,.int .i64 o,.slice a n cp] 38 (0,0))=wa at HA HB0 HS0 |-
   obtain ⟨⟨b0,b1,b2,b3⟩,-⟩:=Qs HB0.out
   by_cases k1:k=1
   ·subst k1
    have hdv:d=Q:=by rw [HDD.out,if_pos (.inl rfl)];exact HPP.out
    subst hdv
    clear HDD HPP
    go_wp2_with fail
    refine (Qn3 _ i o a n cp).mono ?_
    rintro e w2 ⟨rfl,hb2⟩
    obtain ⟨⟨c0,c1,c2,c3⟩,-⟩:=Qs ((hb2.block w.heap.size HS0.out).trans HB0.out)
    have HW:=Lib.hid (HA.out.trans (hb2.mono HA.out.size))
    clear hb2
    go_wp2_with fail
    go_ret
    exact ⟨by simp [hw],HW.out⟩
   by_cases k5:k=5
   ·subst k5
    have hdv:d=Q:=by rw [HDD.out,if_pos (.inr rfl)];exact HPP.out
    subst hdv
    clear HDD HPP
    go_wp2_with fail
    refine (Qk9 _ i o a n cp).mono ?_
    rintro e w2 ⟨rfl,hb2⟩
    obtain ⟨⟨c0,c1,c2,c3⟩,-⟩:=Qs ((hb2.block w.heap.size HS0.out).trans HB0.out)
    have HW:=Lib.hid (HA.out.trans (hb2.mono HA.out.size))
    clear hb2
    go_wp2_with fail
    go_ret
    exact ⟨by simp [hw],HW.out⟩
   by_cases k2:k=2
   ·subst k2
    have hdv:i=d:=by rw [HDD.out];simp
    subst hdv
    clear HDD HPP
    go_wp2_with fail
    refine (Qk6 _ i o a n cp).mono ?_
    rintro e w2 ⟨rfl,hb2⟩
    obtain ⟨⟨c0,c1,c2,c3⟩,-⟩:=Qs ((hb2.block w.heap.size HS0.out).trans HB0.out)
    have HW:=Lib.hid (HA.out.trans (hb2.mono HA.out.size))
    clear hb2
    go_wp2_with fail
    go_ret
    exact ⟨rfl,HW.out⟩
   by_cases k4:k=4
   ·subst k4
    have hdv:d=1:=by rw [HDD.out];simp
    subst hdv
    clear HDD HPP
    go_wp2_with fail
    refine (Qk8 _ i o a n cp).mono ?_
    rintro e w2 ⟨rfl,hb2⟩
    obtain ⟨⟨c0,c1,c2,c3⟩,-⟩:=Qs ((hb2.block w.heap.size HS0.out).trans HB0.out)
    have HW:=Lib.hid (HA.out.trans (hb2.mono HA.out.size))
    clear hb2
    go_wp2_with fail
    go_ret
    exact ⟨rfl,HW.out⟩
   by_cases k3:k=3
   ·subst k3
    have hdv:d=0:=by rw [HDD.out];simp
    subst hdv
    clear HDD HPP
    go_wp2_with fail
    refine (Qk7 _ i o a n cp).mono ?_
    rintro e w2 ⟨rfl,hb2⟩
    obtain ⟨⟨c0,c1,c2,c3⟩,-⟩:=Qs ((hb2.block w.heap.size HS0.out).trans HB0.out)
    have HW:=Lib.hid (HA.out.trans (hb2.mono HA.out.size))
    clear hb2
    go_wp2_with fail
    go_ret
    exact ⟨rfl,HW.out⟩
   have hdv:d=0:=by rw [HDD.out];simp [k1,k2,k4,k5]
   subst hdv
   clear HDD HPP
   go_wp2_with fail
   refine (Qqf _ k i o a n cp k1 k2 k3 k4 k5).mono ?_
   rintro e w2 ⟨rfl,hb2⟩
   obtain ⟨⟨c0,c1,c2,c3⟩,-⟩:=Qs ((hb2.block w.heap.size HS0.out).trans HB0.out)
   have HW:=Lib.hid (HA.out.trans (hb2.mono HA.out.size))
   clear hb2
   go_wp2_with fail
   go_ret
   exact ⟨rfl,HW.out⟩
theorem Qq6 {k i o:Int} {ps:List Int} (h:ps.all okB=false):Jz k i o ps=false:=by unfold Jz;rw [h];simp
theorem Qpq {k i o:Int} {ps:List Int} (h2:inB 1 6 i=true) (h3:inB 1 6 o=true) (h5:(ps.length:Int)=opSz k i o) (h6:ps.all okB=true):Jz k i o ps=(inB 1 5 k && (decide (k=1) || decide (i=o))):=by
 unfold Jz
 rw [h2,h3,h6,decide_eq_true h5]
 simp
theorem J0 (w:World) (k i o:Int) (a:Option Addr) (n cp:Nat) (xs:List Int) (h:IntsIn w.heap.size w a n xs) (hcp:n<=cp) (hcap:cp<=9223372036854775807) :
  Calls Tryz.prog 227 #[.agg #[.int .i64 k,.int .i64 i,.int .i64 o,.slice a n cp]] w fun e w'=>e = .returned (.bool (Jz k i o xs))/\Below w.heap.size w w':=by
 have hal:Below w.heap.size w (w.alloc (.cells #[.int .i64 k,.int .i64 i,.int .i64 o,.slice a n cp] 38 (0,0))):=(Below.refl _ _).alloc (Nat.le_refl _) _
 have hx:=h.below hal (Nat.le_refl _)
 have hroom:=h.room
 have hl:=h.len
 have HZ:=fun (w:World) (h:IntsIn w.heap.size w a n xs)=>Qf6 w k i o a n cp xs h hcp hcap
 have HL:=fun (w:World) (h:IntsIn w.heap.size w a n xs)=>Qb1 w a n cp xs h
 have HX:=Lib.hid hx
 have HA:=Lib.hid hal
 have HI:=Lib.hid (fun w=>Jl i w)
 have HO:=Lib.hid (fun w=>Jl o w)
 have hb0:=heap_alloc_new w (.cells #[.int .i64 k,.int .i64 i,.int .i64 o,.slice a n cp] 38 (0,0))
 have HB0:=Lib.hid hb0
 have hs0:w.heap.size<(w.alloc (.cells #[.int .i64 k,.int .i64 i,.int .i64 o,.slice a n cp] 38 (0,0))).heap.size:=by simp
 have HS0:=Lib.hid hs0
 have HN:=Lib.hid hl
 obtain ⟨d,hd⟩ : ∃ d,d=Jz k i o xs:=⟨_,rfl⟩
 rw [<- hd]
 have HD:=Lib.hid hd
 obtain ⟨Z,hZ⟩ : ∃ Z,opSz k i o=Z:=⟨_,rfl⟩
 rw [hZ] at HZ
 obtain ⟨q,hq⟩ : ∃ q,xs.all okB=q:=⟨_,rfl⟩
 rw [hq] at HL
 clear h hal hx hd hb0 hl hs0 hcp hcap
 replace HZ:=Lib.hid HZ
 replace HL:=Lib.hid HL
 cases hi:inB 1 6 i with
 | false =>
  have hdf:d=false:=by rw [HD.out];exact Qqa hi
  subst hdf
  rw [hi] at HI
  clear hi hZ hq
  go_enter Tryz.func227,Tryz.ntmps227
  go_upto_region 1 with fail
  obtain ⟨⟨c0,c1,c2,c3⟩,-⟩:=Qs HB0.out
  generalize w.alloc (.cells #[.int .i64 k,.int .i64 i,.int .i64 o,.slice a n cp] 38 (0,0))=wa at HX HA HB0 HS0 c0 c1 c2 c3 |-
  have k0:=cell_regrown c0
  have k1:=cell_regrown c1
  have k2:=cell_regrown c2
  have k3:=cell_regrown c3
  have cI:=fun d os=>Calls.regrown_of (w:=wa) (d:=d) (os:=os) ((HI.out _).mono fun e w' h=>⟨h.1,h.2 ▸ Below.refl _ _⟩)
  have cO:=fun d os=>Calls.regrown_of (w:=wa) (d:=d) (os:=os) ((HO.out _).mono fun e w' h=>⟨h.1,h.2 ▸ Below.refl _ _⟩)
  have cL:=fun d os=>Calls.regrown_of (w:=wa) (d:=d) (os:=os) ((HL.out _ ((HX.out.below (below_regrown wa d os) HA.out.size).le (Nat.le_trans HA.out.size (below_regrown wa d os).size))).mono fun e w' h=>⟨h.1,h.2 ▸ Below.refl _ _⟩)
  have cZ:=fun d os=>Calls.regrown_of (w:=wa) (d:=d) (os:=os) (HZ.out _ ((HX.out.below (below_regrown wa d os) HA.out.size).le (Nat.le_trans HA.out.size (below_regrown wa d os).size)))
  have CI:=Lib.hid cI
  have CO:=Lib.hid cO
  have CL:=Lib.hid cL
  have CZ:=Lib.hid cZ
  clear c0 c1 c2 c3 cI cO cL cZ
  refine wp_region_quiet_below (by kernel_rfl) (by kernel_rfl) ?_
  repeat (go_big_quiet_step (with_reducible first | exact CI.out _ _ | exact CO.out _ _ | exact CL.out _ _ | exact CZ.out _ _))
  refine wpQuiet_nil ?_
  intro _ hw'
  obtain ⟨⟨dq,osq⟩,hw''⟩:=hw'
  subst hw''
  have hwq:=below_regrown wa dq osq
  generalize grow (redrawn wa dq) osq=w1 at hwq |-
  have HW:=Lib.hid hwq
  clear hwq k0 k1 k2 k3
  go_wp2_with fail
  go_ret
  exact ⟨rfl,HA.out.trans (HW.out.mono HA.out.size)⟩
 | true =>
  cases ho:inB 1 6 o with
  | false =>
   have hdf:d=false:=by rw [HD.out];exact Qqb ho
   subst hdf
   rw [hi] at HI
   rw [ho] at HO
   clear hi ho hZ hq
   go_enter Tryz.func227,Tryz.ntmps227
   go_upto_region 1 with fail
   obtain ⟨⟨c0,c1,c2,c3⟩,-⟩:=Qs HB0.out
   generalize w.alloc (.cells #[.int .i64 k,.int .i64 i,.int .i64 o,.slice a n cp] 38 (0,0))=wa at HX HA HB0 HS0 c0 c1 c2 c3 |-
   have k0:=cell_regrown c0
   have k1:=cell_regrown c1
   have k2:=cell_regrown c2
   have k3:=cell_regrown c3
   have cI:=fun d os=>Calls.regrown_of (w:=wa) (d:=d) (os:=os) ((HI.out _).mono fun e w' h=>⟨h.1,h.2 ▸ Below.refl _ _⟩)
   have cO:=fun d os=>Calls.regrown_of (w:=wa) (d:=d) (os:=os) ((HO.out _).mono fun e w' h=>⟨h.1,h.2 ▸ Below.refl _ _⟩)
   have cL:=fun d os=>Calls.regrown_of (w:=wa) (d:=d) (os:=os) ((HL.out _ ((HX.out.below (below_regrown wa d os) HA.out.size).le (Nat.le_trans HA.out.size (below_regrown wa d os).size))).mono fun e w' h=>⟨h.1,h.2 ▸ Below.refl _ _⟩)
   have cZ:=fun d os=>Calls.regrown_of (w:=wa) (d:=d) (os:=os) (HZ.out _ ((HX.out.below (below_regrown wa d os) HA.out.size).le (Nat.le_trans HA.out.size (below_regrown wa d os).size)))
   have CI:=Lib.hid cI
   have CO:=Lib.hid cO
   have CL:=Lib.hid cL
   have CZ:=Lib.hid cZ
   clear c0 c1 c2 c3 cI cO cL cZ
   refine wp_region_quiet_below (by kernel_rfl) (by kernel_rfl) ?_
   repeat (go_big_quiet_step (with_reducible first | exact CI.out _ _ | exact CO.out _ _ | exact CL.out _ _ | exact CZ.out _ _))
   refine wpQuiet_nil ?_
   intro _ hw'
   obtain ⟨⟨dq,osq⟩,hw''⟩:=hw'
   subst hw''
   have hwq:=below_regrown wa dq osq
   generalize grow (redrawn wa dq) osq=w1 at hwq |-
   have HW:=Lib.hid hwq
   clear hwq k0 k1 k2 k3
   go_wp2_with fail
   go_ret
   exact ⟨rfl,HA.out.trans (HW.out.mono HA.out.size)⟩
  | true =>
   by_cases h5:(n:Int)=Z
   ·subst h5
    cases q with
    | false =>
     have hdf:d=false:=by rw [HD.out];exact Qq6 hq
     subst hdf
     rw [hi] at HI
     rw [ho] at HO
     clear hi ho hZ hq
     go_enter Tryz.func227,Tryz.ntmps227
     go_upto_region 1 with fail
     obtain ⟨⟨c0,c1,c2,c3⟩,-⟩:=Qs HB0.out
     generalize w.alloc (.cells #[.int .i64 k,.int .i64 i,.int .i64 o,.slice a n cp] 38 (0,0))=wa at HX HA HB0 HS0 c0 c1 c2 c3 |-
     have k0:=cell_regrown c0
     have k1:=cell_regrown c1
     have k2:=cell_regrown c2
     have k3:=cell_regrown c3
     have cI:=fun d os=>Calls.regrown_of (w:=wa) (d:=d) (os:=os) ((HI.out _).mono fun e w' h=>⟨h.1,h.2 ▸ Below.refl _ _⟩)
     have cO:=fun d os=>Calls.regrown_of (w:=wa) (d:=d) (os:=os) ((HO.out _).mono fun e w' h=>⟨h.1,h.2 ▸ Below.refl _ _⟩)
     have cL:=fun d os=>Calls.regrown_of (w:=wa) (d:=d) (os:=os) ((HL.out _ ((HX.out.below (below_regrown wa d os) HA.out.size).le (Nat.le_trans HA.out.size (below_regrown wa d os).size))).mono fun e w' h=>⟨h.1,h.2 ▸ Below.refl _ _⟩)
     have cZ:=fun d os=>Calls.regrown_of (w:=wa) (d:=d) (os:=os) (HZ.out _ ((HX.out.below (below_regrown wa d os) HA.out.size).le (Nat.le_trans HA.out.size (below_regrown wa d os).size)))
     have CI:=Lib.hid cI
     have CO:=Lib.hid cO
     have CL:=Lib.hid cL
     have CZ:=Lib.hid cZ
     clear c0 c1 c2 c3 cI cO cL cZ
     refine wp_region_quiet_below (by kernel_rfl) (by kernel_rfl) ?_
     repeat (go_big_quiet_step (with_reducible first | exact CI.out _ _ | exact CO.out _ _ | exact CL.out _ _ | exact CZ.out _ _))
     refine wpQuiet_nil ?_
     intro _ hw'
     obtain ⟨⟨dq,osq⟩,hw''⟩:=hw'
     subst hw''
     have hwq:=below_regrown wa dq osq
     generalize grow (redrawn wa dq) osq=w1 at hwq |-
     have HW:=Lib.hid hwq
     clear hwq k0 k1 k2 k3
     go_wp2_with fail
     go_ret
     exact ⟨rfl,HA.out.trans (HW.out.mono HA.out.size)⟩
    | true =>
     have hdd:d=(inB 1 5 k && (decide (k=1) || decide (i=o))):=by rw [HD.out];exact Qpq hi ho (by rw [HN.out,hZ]) hq
     have HDD:=Lib.hid hdd
     rw [hi] at HI
     rw [ho] at HO
     clear hi ho hZ hq hdd HD
     by_cases n1:k=1
     ·subst n1
      have hdv:d=true:=by rw [HDD.out];rfl
      subst hdv
      clear HDD
      go_enter Tryz.func227,Tryz.ntmps227
      go_upto_region 1 with fail
      obtain ⟨⟨c0,c1,c2,c3⟩,-⟩:=Qs HB0.out
      generalize w.alloc (.cells #[.int .i64 1,.int .i64 i,.int .i64 o,.slice a n cp] 38 (0,0))=wa at HX HA HB0 HS0 c0 c1 c2 c3 |-
      have k0:=cell_regrown c0
      have k1:=cell_regrown c1
      have k2:=cell_regrown c2
      have k3:=cell_regrown c3
      have cI:=fun d os=>Calls.regrown_of (w:=wa) (d:=d) (os:=os) ((HI.out _).mono fun e w' h=>⟨h.1,h.2 ▸ Below.refl _ _⟩)
      have cO:=fun d os=>Calls.regrown_of (w:=wa) (d:=d) (os:=os) ((HO.out _).mono fun e w' h=>⟨h.1,h.2 ▸ Below.refl _ _⟩)
      have cL:=fun d os=>Calls.regrown_of (w:=wa) (d:=d) (os:=os) ((HL.out _ ((HX.out.below (below_regrown wa d os) HA.out.size).le (Nat.le_trans HA.out.size (below_regrown wa d os).size))).mono fun e w' h=>⟨h.1,h.2 ▸ Below.refl _ _⟩)
      have cZ:=fun d os=>Calls.regrown_of (w:=wa) (d:=d) (os:=os) (HZ.out _ ((HX.out.below (below_regrown wa d os) HA.out.size).le (Nat.le_trans HA.out.size (below_regrown wa d os).size)))
      have CI:=Lib.hid cI
      have CO:=Lib.hid cO
      have CL:=Lib.hid cL
      have CZ:=Lib.hid cZ
      clear c0 c1 c2 c3 cI cO cL cZ
      refine wp_region_quiet_below (by kernel_rfl) (by kernel_rfl) ?_
      repeat (go_big_quiet_step (with_reducible first | exact CI.out _ _ | exact CO.out _ _ | exact CL.out _ _ | exact CZ.out _ _))
      refine wpQuiet_nil ?_
      intro _ hw'
      obtain ⟨⟨dq,osq⟩,hw''⟩:=hw'
      subst hw''
      have hwq:=below_regrown wa dq osq
      generalize grow (redrawn wa dq) osq=w1 at hwq |-
      have HW:=Lib.hid hwq
      clear hwq k0 k1 k2 k3
      have hbw:=(HW.out.block w.heap.size HS0.out).trans HB0.out
      obtain ⟨⟨c0,c1,c2,c3⟩,-⟩:=Qs hbw
      have HBW:=Lib.hid hbw
      clear hbw
      go_wp2_with fail
      refine (Qn3 _ i o a n cp).mono ?_
      rintro e w2 ⟨rfl,hb2⟩
      have hs1:=Nat.lt_of_lt_of_le HS0.out HW.out.size
      clear c0 c1 c2 c3
      obtain ⟨⟨c0,c1,c2,c3⟩,-⟩:=Qs ((hb2.block w.heap.size hs1).trans HBW.out)
      have HE:=Lib.hid (HA.out.trans ((HW.out.mono HA.out.size).trans (hb2.mono (Nat.le_of_lt hs1))))
      clear hb2
      go_wp2_with fail
      go_ret
      exact ⟨rfl,HE.out⟩
     by_cases n2:k=2
     ·subst n2
      by_cases e:i=o
      ·subst e
       have hdv:d=true:=by rw [HDD.out,decide_eq_true rfl];rfl
       subst hdv
       clear HDD
       go_enter Tryz.func227,Tryz.ntmps227
       go_upto_region 1 with fail
       obtain ⟨⟨c0,c1,c2,c3⟩,-⟩:=Qs HB0.out
       generalize w.alloc (.cells #[.int .i64 2,.int .i64 i,.int .i64 i,.slice a n cp] 38 (0,0))=wa at HX HA HB0 HS0 c0 c1 c2 c3 |-
       have k0:=cell_regrown c0
       have k1:=cell_regrown c1
       have k2:=cell_regrown c2
       have k3:=cell_regrown c3
       have cI:=fun d os=>Calls.regrown_of (w:=wa) (d:=d) (os:=os) ((HI.out _).mono fun e w' h=>⟨h.1,h.2 ▸ Below.refl _ _⟩)
       have cO:=fun d os=>Calls.regrown_of (w:=wa) (d:=d) (os:=os) ((HO.out _).mono fun e w' h=>⟨h.1,h.2 ▸ Below.refl _ _⟩)
       have cL:=fun d os=>Calls.regrown_of (w:=wa) (d:=d) (os:=os) ((HL.out _ ((HX.out.below (below_regrown wa d os) HA.out.size).le (Nat.le_trans HA.out.size (below_regrown wa d os).size))).mono fun e w' h=>⟨h.1,h.2 ▸ Below.refl _ _⟩)
       have cZ:=fun d os=>Calls.regrown_of (w:=wa) (d:=d) (os:=os) (HZ.out _ ((HX.out.below (below_regrown wa d os) HA.out.size).le (Nat.le_trans HA.out.size (below_regrown wa d os).size)))
       have CI:=Lib.hid cI
       have CO:=Lib.hid cO
       have CL:=Lib.hid cL
       have CZ:=Lib.hid cZ
       clear c0 c1 c2 c3 cI cO cL cZ
       refine wp_region_quiet_below (by kernel_rfl) (by kernel_rfl) ?_
       repeat (go_big_quiet_step (with_reducible first | exact CI.out _ _ | exact CO.out _ _ | exact CL.out _ _ | exact CZ.out _ _))
       refine wpQuiet_nil ?_
       intro _ hw'
       obtain ⟨⟨dq,osq⟩,hw''⟩:=hw'
       subst hw''
       have hwq:=below_regrown wa dq osq
       generalize grow (redrawn wa dq) osq=w1 at hwq |-
       have HW:=Lib.hid hwq
       clear hwq k0 k1 k2 k3
       have hbw:=(HW.out.block w.heap.size HS0.out).trans HB0.out
       obtain ⟨⟨c0,c1,c2,c3⟩,-⟩:=Qs hbw
       have HBW:=Lib.hid hbw
       clear hbw
       go_wp2_with fail
       refine (Qk6 _ i i a n cp).mono ?_
       rintro e w2 ⟨rfl,hb2⟩
       have hs1:=Nat.lt_of_lt_of_le HS0.out HW.out.size
       clear c0 c1 c2 c3
       obtain ⟨⟨c0,c1,c2,c3⟩,-⟩:=Qs ((hb2.block w.heap.size hs1).trans HBW.out)
       have HE:=Lib.hid (HA.out.trans ((HW.out.mono HA.out.size).trans (hb2.mono (Nat.le_of_lt hs1))))
       clear hb2
       go_wp2_with fail
       go_ret
       exact ⟨by simp,HE.out⟩
      ·have hdv:d=false:=by rw [HDD.out,decide_eq_false e];rfl
       subst hdv
       clear HDD
       have e':(i == o)=false:=by simpa using e
       clear e
       go_enter Tryz.func227,Tryz.ntmps227
       go_upto_region 1 with fail
       obtain ⟨⟨c0,c1,c2,c3⟩,-⟩:=Qs HB0.out
       generalize w.alloc (.cells #[.int .i64 2,.int .i64 i,.int .i64 o,.slice a n cp] 38 (0,0))=wa at HX HA HB0 HS0 c0 c1 c2 c3 |-
       have k0:=cell_regrown c0
       have k1:=cell_regrown c1
       have k2:=cell_regrown c2
       have k3:=cell_regrown c3
       have cI:=fun d os=>Calls.regrown_of (w:=wa) (d:=d) (os:=os) ((HI.out _).mono fun e w' h=>⟨h.1,h.2 ▸ Below.refl _ _⟩)
       have cO:=fun d os=>Calls.regrown_of (w:=wa) (d:=d) (os:=os) ((HO.out _).mono fun e w' h=>⟨h.1,h.2 ▸ Below.refl _ _⟩)
       have cL:=fun d os=>Calls.regrown_of (w:=wa) (d:=d) (os:=os) ((HL.out _ ((HX.out.below (below_regrown wa d os) HA.out.size).le (Nat.le_trans HA.out.size (below_regrown wa d os).size))).mono fun e w' h=>⟨h.1,h.2 ▸ Below.refl _ _⟩)
       have cZ:=fun d os=>Calls.regrown_of (w:=wa) (d:=d) (os:=os) (HZ.out _ ((HX.out.below (below_regrown wa d os) HA.out.size).le (Nat.le_trans HA.out.size (below_regrown wa d os).size)))
       have CI:=Lib.hid cI
       have CO:=Lib.hid cO
       have CL:=Lib.hid cL
       have CZ:=Lib.hid cZ
       clear c0 c1 c2 c3 cI cO cL cZ
       refine wp_region_quiet_below (by kernel_rfl) (by kernel_rfl) ?_
       repeat (go_big_quiet_step (with_reducible first | exact CI.out _ _ | exact CO.out _ _ | exact CL.out _ _ | exact CZ.out _ _))
       refine wpQuiet_nil ?_
       intro _ hw'
       obtain ⟨⟨dq,osq⟩,hw''⟩:=hw'
       subst hw''
       have hwq:=below_regrown wa dq osq
       generalize grow (redrawn wa dq) osq=w1 at hwq |-
       have HW:=Lib.hid hwq
       clear hwq k0 k1 k2 k3
       have hbw:=(HW.out.block w.heap.size HS0.out).trans HB0.out
       obtain ⟨⟨c0,c1,c2,c3⟩,-⟩:=Qs hbw
       have HBW:=Lib.hid hbw
       clear hbw
       go_wp2_with fail
       refine (Qk6 _ i o a n cp).mono ?_
       rintro e w2 ⟨rfl,hb2⟩
       have hs1:=Nat.lt_of_lt_of_le HS0.out HW.out.size
       clear c0 c1 c2 c3
       obtain ⟨⟨c0,c1,c2,c3⟩,-⟩:=Qs ((hb2.block w.heap.size hs1).trans HBW.out)
       have HE:=Lib.hid (HA.out.trans ((HW.out.mono HA.out.size).trans (hb2.mono (Nat.le_of_lt hs1))))
       clear hb2
       go_wp2_with fail
       go_ret
       exact ⟨rfl,HE.out⟩
     by_cases n3:k=3
     ·subst n3
      by_cases e:i=o
      ·subst e
       have hdv:d=true:=by rw [HDD.out,decide_eq_true rfl];rfl
       subst hdv
       clear HDD
       go_enter Tryz.func227,Tryz.ntmps227
       go_upto_region 1 with fail
       obtain ⟨⟨c0,c1,c2,c3⟩,-⟩:=Qs HB0.out
       generalize w.alloc (.cells #[.int .i64 3,.int .i64 i,.int .i64 i,.slice a n cp] 38 (0,0))=wa at HX HA HB0 HS0 c0 c1 c2 c3 |-
       have k0:=cell_regrown c0
       have k1:=cell_regrown c1
       have k2:=cell_regrown c2
       have k3:=cell_regrown c3
       have cI:=fun d os=>Calls.regrown_of (w:=wa) (d:=d) (os:=os) ((HI.out _).mono fun e w' h=>⟨h.1,h.2 ▸ Below.refl _ _⟩)
       have cO:=fun d os=>Calls.regrown_of (w:=wa) (d:=d) (os:=os) ((HO.out _).mono fun e w' h=>⟨h.1,h.2 ▸ Below.refl _ _⟩)
       have cL:=fun d os=>Calls.regrown_of (w:=wa) (d:=d) (os:=os) ((HL.out _ ((HX.out.below (below_regrown wa d os) HA.out.size).le (Nat.le_trans HA.out.size (below_regrown wa d os).size))).mono fun e w' h=>⟨h.1,h.2 ▸ Below.refl _ _⟩)
       have cZ:=fun d os=>Calls.regrown_of (w:=wa) (d:=d) (os:=os) (HZ.out _ ((HX.out.below (below_regrown wa d os) HA.out.size).le (Nat.le_trans HA.out.size (below_regrown wa d os).size)))
       have CI:=Lib.hid cI
       have CO:=Lib.hid cO
       have CL:=Lib.hid cL
       have CZ:=Lib.hid cZ
       clear c0 c1 c2 c3 cI cO cL cZ
       refine wp_region_quiet_below (by kernel_rfl) (by kernel_rfl) ?_
       repeat (go_big_quiet_step (with_reducible first | exact CI.out _ _ | exact CO.out _ _ | exact CL.out _ _ | exact CZ.out _ _))
       refine wpQuiet_nil ?_
       intro _ hw'
       obtain ⟨⟨dq,osq⟩,hw''⟩:=hw'
       subst hw''
       have hwq:=below_regrown wa dq osq
       generalize grow (redrawn wa dq) osq=w1 at hwq |-
       have HW:=Lib.hid hwq
       clear hwq k0 k1 k2 k3
       have hbw:=(HW.out.block w.heap.size HS0.out).trans HB0.out
       obtain ⟨⟨c0,c1,c2,c3⟩,-⟩:=Qs hbw
       have HBW:=Lib.hid hbw
       clear hbw
       go_wp2_with fail
       refine (Qk7 _ i i a n cp).mono ?_
       rintro e w2 ⟨rfl,hb2⟩
       have hs1:=Nat.lt_of_lt_of_le HS0.out HW.out.size
       clear c0 c1 c2 c3
       obtain ⟨⟨c0,c1,c2,c3⟩,-⟩:=Qs ((hb2.block w.heap.size hs1).trans HBW.out)
       have HE:=Lib.hid (HA.out.trans ((HW.out.mono HA.out.size).trans (hb2.mono (Nat.le_of_lt hs1))))
       clear hb2
       go_wp2_with fail
       go_ret
       exact ⟨by simp,HE.out⟩
      ·have hdv:d=false:=by rw [HDD.out,decide_eq_false e];rfl
       subst hdv
       clear HDD
       have e':(i == o)=false:=by simpa using e
       clear e
       go_enter Tryz.func227,Tryz.ntmps227
       go_upto_region 1 with fail
       obtain ⟨⟨c0,c1,c2,c3⟩,-⟩:=Qs HB0.out
       generalize w.alloc (.cells #[.int .i64 3,.int .i64 i,.int .i64 o,.slice a n cp] 38 (0,0))=wa at HX HA HB0 HS0 c0 c1 c2 c3 |-
       have k0:=cell_regrown c0
       have k1:=cell_regrown c1
       have k2:=cell_regrown c2
       have k3:=cell_regrown c3
       have cI:=fun d os=>Calls.regrown_of (w:=wa) (d:=d) (os:=os) ((HI.out _).mono fun e w' h=>⟨h.1,h.2 ▸ Below.refl _ _⟩)
       have cO:=fun d os=>Calls.regrown_of (w:=wa) (d:=d) (os:=os) ((HO.out _).mono fun e w' h=>⟨h.1,h.2 ▸ Below.refl _ _⟩)
       have cL:=fun d os=>Calls.regrown_of (w:=wa) (d:=d) (os:=os) ((HL.out _ ((HX.out.below (below_regrown wa d os) HA.out.size).le (Nat.le_trans HA.out.size (below_regrown wa d os).size))).mono fun e w' h=>⟨h.1,h.2 ▸ Below.refl _ _⟩)
       have cZ:=fun d os=>Calls.regrown_of (w:=wa) (d:=d) (os:=os) (HZ.out _ ((HX.out.below (below_regrown wa d os) HA.out.size).le (Nat.le_trans HA.out.size (below_regrown wa d os).size)))
       have CI:=Lib.hid cI
       have CO:=Lib.hid cO
       have CL:=Lib.hid cL
       have CZ:=Lib.hid cZ
       clear c0 c1 c2 c3 cI cO cL cZ
       refine wp_region_quiet_below (by kernel_rfl) (by kernel_rfl) ?_
       repeat (go_big_quiet_step (with_reducible first | exact CI.out _ _ | exact CO.out _ _ | exact CL.out _ _ | exact CZ.out _ _))
       refine wpQuiet_nil ?_
       intro _ hw'
       obtain ⟨⟨dq,osq⟩,hw''⟩:=hw'
       subst hw''
       have hwq:=below_regrown wa dq osq
       generalize grow (redrawn wa dq) osq=w1 at hwq |-
       have HW:=Lib.hid hwq
       clear hwq k0 k1 k2 k3
       have hbw:=(HW.out.block w.heap.size HS0.out).trans HB0.out
       obtain ⟨⟨c0,c1,c2,c3⟩,-⟩:=Qs hbw
       have HBW:=Lib.hid hbw
       clear hbw
       go_wp2_with fail
       refine (Qk7 _ i o a n cp).mono ?_
       rintro e w2 ⟨rfl,hb2⟩
       have hs1:=Nat.lt_of_lt_of_le HS0.out HW.out.size
       clear c0 c1 c2 c3
       obtain ⟨⟨c0,c1,c2,c3⟩,-⟩:=Qs ((hb2.block w.heap.size hs1).trans HBW.out)
       have HE:=Lib.hid (HA.out.trans ((HW.out.mono HA.out.size).trans (hb2.mono (Nat.le_of_lt hs1))))
       clear hb2
       go_wp2_with fail
       go_ret
       exact ⟨rfl,HE.out⟩
     by_cases n4:k=4
     ·subst n4
      by_cases e:i=o
      ·subst e
       have hdv:d=true:=by rw [HDD.out,decide_eq_true rfl];rfl
       subst hdv
       clear HDD
       go_enter Tryz.func227,Tryz.ntmps227
       go_upto_region 1 with fail
       obtain ⟨⟨c0,c1,c2,c3⟩,-⟩:=Qs HB0.out
       generalize w.alloc (.cells #[.int .i64 4,.int .i64 i,.int .i64 i,.slice a n cp] 38 (0,0))=wa at HX HA HB0 HS0 c0 c1 c2 c3 |-
       have k0:=cell_regrown c0
       have k1:=cell_regrown c1
       have k2:=cell_regrown c2
       have k3:=cell_regrown c3
       have cI:=fun d os=>Calls.regrown_of (w:=wa) (d:=d) (os:=os) ((HI.out _).mono fun e w' h=>⟨h.1,h.2 ▸ Below.refl _ _⟩)
       have cO:=fun d os=>Calls.regrown_of (w:=wa) (d:=d) (os:=os) ((HO.out _).mono fun e w' h=>⟨h.1,h.2 ▸ Below.refl _ _⟩)
       have cL:=fun d os=>Calls.regrown_of (w:=wa) (d:=d) (os:=os) ((HL.out _ ((HX.out.below (below_regrown wa d os) HA.out.size).le (Nat.le_trans HA.out.size (below_regrown wa d os).size))).mono fun e w' h=>⟨h.1,h.2 ▸ Below.refl _ _⟩)
       have cZ:=fun d os=>Calls.regrown_of (w:=wa) (d:=d) (os:=os) (HZ.out _ ((HX.out.below (below_regrown wa d os) HA.out.size).le (Nat.le_trans HA.out.size (below_regrown wa d os).size)))
       have CI:=Lib.hid cI
       have CO:=Lib.hid cO
       have CL:=Lib.hid cL
       have CZ:=Lib.hid cZ
       clear c0 c1 c2 c3 cI cO cL cZ
       refine wp_region_quiet_below (by kernel_rfl) (by kernel_rfl) ?_
       repeat (go_big_quiet_step (with_reducible first | exact CI.out _ _ | exact CO.out _ _ | exact CL.out _ _ | exact CZ.out _ _))
       refine wpQuiet_nil ?_
       intro _ hw'
       obtain ⟨⟨dq,osq⟩,hw''⟩:=hw'
       subst hw''
       have hwq:=below_regrown wa dq osq
       generalize grow (redrawn wa dq) osq=w1 at hwq |-
       have HW:=Lib.hid hwq
       clear hwq k0 k1 k2 k3
       have hbw:=(HW.out.block w.heap.size HS0.out).trans HB0.out
       obtain ⟨⟨c0,c1,c2,c3⟩,-⟩:=Qs hbw
       have HBW:=Lib.hid hbw
       clear hbw
       go_wp2_with fail
       refine (Qk8 _ i i a n cp).mono ?_
       rintro e w2 ⟨rfl,hb2⟩
       have hs1:=Nat.lt_of_lt_of_le HS0.out HW.out.size
       clear c0 c1 c2 c3
       obtain ⟨⟨c0,c1,c2,c3⟩,-⟩:=Qs ((hb2.block w.heap.size hs1).trans HBW.out)
       have HE:=Lib.hid (HA.out.trans ((HW.out.mono HA.out.size).trans (hb2.mono (Nat.le_of_lt hs1))))
       clear hb2
       go_wp2_with fail
       go_ret
       exact ⟨by simp,HE.out⟩
      ·have hdv:d=false:=by rw [HDD.out,decide_eq_false e];rfl
       subst hdv
       clear HDD
       have e':(i == o)=false:=by simpa using e
       clear e
       go_enter Tryz.func227,Tryz.ntmps227
       go_upto_region 1 with fail
       obtain ⟨⟨c0,c1,c2,c3⟩,-⟩:=Qs HB0.out
       generalize w.alloc (.cells #[.int .i64 4,.int .i64 i,.int .i64 o,.slice a n cp] 38 (0,0))=wa at HX HA HB0 HS0 c0 c1 c2 c3 |-
       have k0:=cell_regrown c0
       have k1:=cell_regrown c1
       have k2:=cell_regrown c2
       have k3:=cell_regrown c3
       have cI:=fun d os=>Calls.regrown_of (w:=wa) (d:=d) (os:=os) ((HI.out _).mono fun e w' h=>⟨h.1,h.2 ▸ Below.refl _ _⟩)
       have cO:=fun d os=>Calls.regrown_of (w:=wa) (d:=d) (os:=os) ((HO.out _).mono fun e w' h=>⟨h.1,h.2 ▸ Below.refl _ _⟩)
       have cL:=fun d os=>Calls.regrown_of (w:=wa) (d:=d) (os:=os) ((HL.out _ ((HX.out.below (below_regrown wa d os) HA.out.size).le (Nat.le_trans HA.out.size (below_regrown wa d os).size))).mono fun e w' h=>⟨h.1,h.2 ▸ Below.refl _ _⟩)
       have cZ:=fun d os=>Calls.regrown_of (w:=wa) (d:=d) (os:=os) (HZ.out _ ((HX.out.below (below_regrown wa d os) HA.out.size).le (Nat.le_trans HA.out.size (below_regrown wa d os).size)))
       have CI:=Lib.hid cI
       have CO:=Lib.hid cO
       have CL:=Lib.hid cL
       have CZ:=Lib.hid cZ
       clear c0 c1 c2 c3 cI cO cL cZ
       refine wp_region_quiet_below (by kernel_rfl) (by kernel_rfl) ?_
       repeat (go_big_quiet_step (with_reducible first | exact CI.out _ _ | exact CO.out _ _ | exact CL.out _ _ | exact CZ.out _ _))
       refine wpQuiet_nil ?_
       intro _ hw'
       obtain ⟨⟨dq,osq⟩,hw''⟩:=hw'
       subst hw''
       have hwq:=below_regrown wa dq osq
       generalize grow (redrawn wa dq) osq=w1 at hwq |-
       have HW:=Lib.hid hwq
       clear hwq k0 k1 k2 k3
       have hbw:=(HW.out.block w.heap.size HS0.out).trans HB0.out
       obtain ⟨⟨c0,c1,c2,c3⟩,-⟩:=Qs hbw
       have HBW:=Lib.hid hbw
       clear hbw
       go_wp2_with fail
       refine (Qk8 _ i o a n cp).mono ?_
       rintro e w2 ⟨rfl,hb2⟩
       have hs1:=Nat.lt_of_lt_of_le HS0.out HW.out.size
       clear c0 c1 c2 c3
       obtain ⟨⟨c0,c1,c2,c3⟩,-⟩:=Qs ((hb2.block w.heap.size hs1).trans HBW.out)
       have HE:=Lib.hid (HA.out.trans ((HW.out.mono HA.out.size).trans (hb2.mono (Nat.le_of_lt hs1))))
       clear hb2
       go_wp2_with fail
       go_ret
       exact ⟨rfl,HE.out⟩
     by_cases n5:k=5
     ·subst n5
      by_cases e:i=o
      ·subst e
       have hdv:d=true:=by rw [HDD.out,decide_eq_true rfl];rfl
       subst hdv
       clear HDD
       go_enter Tryz.func227,Tryz.ntmps227
       go_upto_region 1 with fail
       obtain ⟨⟨c0,c1,c2,c3⟩,-⟩:=Qs HB0.out
       generalize w.alloc (.cells #[.int .i64 5,.int .i64 i,.int .i64 i,.slice a n cp] 38 (0,0))=wa at HX HA HB0 HS0 c0 c1 c2 c3 |-
       have k0:=cell_regrown c0
       have k1:=cell_regrown c1
       have k2:=cell_regrown c2
       have k3:=cell_regrown c3
       have cI:=fun d os=>Calls.regrown_of (w:=wa) (d:=d) (os:=os) ((HI.out _).mono fun e w' h=>⟨h.1,h.2 ▸ Below.refl _ _⟩)
       have cO:=fun d os=>Calls.regrown_of (w:=wa) (d:=d) (os:=os) ((HO.out _).mono fun e w' h=>⟨h.1,h.2 ▸ Below.refl _ _⟩)
       have cL:=fun d os=>Calls.regrown_of (w:=wa) (d:=d) (os:=os) ((HL.out _ ((HX.out.below (below_regrown wa d os) HA.out.size).le (Nat.le_trans HA.out.size (below_regrown wa d os).size))).mono fun e w' h=>⟨h.1,h.2 ▸ Below.refl _ _⟩)
       have cZ:=fun d os=>Calls.regrown_of (w:=wa) (d:=d) (os:=os) (HZ.out _ ((HX.out.below (below_regrown wa d os) HA.out.size).le (Nat.le_trans HA.out.size (below_regrown wa d os).size)))
       have CI:=Lib.hid cI
       have CO:=Lib.hid cO
       have CL:=Lib.hid cL
       have CZ:=Lib.hid cZ
       clear c0 c1 c2 c3 cI cO cL cZ
       refine wp_region_quiet_below (by kernel_rfl) (by kernel_rfl) ?_
       repeat (go_big_quiet_step (with_reducible first | exact CI.out _ _ | exact CO.out _ _ | exact CL.out _ _ | exact CZ.out _ _))
       refine wpQuiet_nil ?_
       intro _ hw'
       obtain ⟨⟨dq,osq⟩,hw''⟩:=hw'
       subst hw''
       have hwq:=below_regrown wa dq osq
       generalize grow (redrawn wa dq) osq=w1 at hwq |-
       have HW:=Lib.hid hwq
       clear hwq k0 k1 k2 k3
       have hbw:=(HW.out.block w.heap.size HS0.out).trans HB0.out
       obtain ⟨⟨c0,c1,c2,c3⟩,-⟩:=Qs hbw
       have HBW:=Lib.hid hbw
       clear hbw
       go_wp2_with fail
       refine (Qk9 _ i i a n cp).mono ?_
       rintro e w2 ⟨rfl,hb2⟩
       have hs1:=Nat.lt_of_lt_of_le HS0.out HW.out.size
       clear c0 c1 c2 c3
       obtain ⟨⟨c0,c1,c2,c3⟩,-⟩:=Qs ((hb2.block w.heap.size hs1).trans HBW.out)
       have HE:=Lib.hid (HA.out.trans ((HW.out.mono HA.out.size).trans (hb2.mono (Nat.le_of_lt hs1))))
       clear hb2
       go_wp2_with fail
       go_ret
       exact ⟨by simp,HE.out⟩
      ·have hdv:d=false:=by rw [HDD.out,decide_eq_false e];rfl
       subst hdv
       clear HDD
       have e':(i == o)=false:=by simpa using e
       clear e
       go_enter Tryz.func227,Tryz.ntmps227
       go_upto_region 1 with fail
       obtain ⟨⟨c0,c1,c2,c3⟩,-⟩:=Qs HB0.out
       generalize w.alloc (.cells #[.int .i64 5,.int .i64 i,.int .i64 o,.slice a n cp] 38 (0,0))=wa at HX HA HB0 HS0 c0 c1 c2 c3 |-
       have k0:=cell_regrown c0
       have k1:=cell_regrown c1
       have k2:=cell_regrown c2
       have k3:=cell_regrown c3
       have cI:=fun d os=>Calls.regrown_of (w:=wa) (d:=d) (os:=os) ((HI.out _).mono fun e w' h=>⟨h.1,h.2 ▸ Below.refl _ _⟩)
       have cO:=fun d os=>Calls.regrown_of (w:=wa) (d:=d) (os:=os) ((HO.out _).mono fun e w' h=>⟨h.1,h.2 ▸ Below.refl _ _⟩)
       have cL:=fun d os=>Calls.regrown_of (w:=wa) (d:=d) (os:=os) ((HL.out _ ((HX.out.below (below_regrown wa d os) HA.out.size).le (Nat.le_trans HA.out.size (below_regrown wa d os).size))).mono fun e w' h=>⟨h.1,h.2 ▸ Below.refl _ _⟩)
       have cZ:=fun d os=>Calls.regrown_of (w:=wa) (d:=d) (os:=os) (HZ.out _ ((HX.out.below (below_regrown wa d os) HA.out.size).le (Nat.le_trans HA.out.size (below_regrown wa d os).size)))
       have CI:=Lib.hid cI
       have CO:=Lib.hid cO
       have CL:=Lib.hid cL
       have CZ:=Lib.hid cZ
       clear c0 c1 c2 c3 cI cO cL cZ
       refine wp_region_quiet_below (by kernel_rfl) (by kernel_rfl) ?_
       repeat (go_big_quiet_step (with_reducible first | exact CI.out _ _ | exact CO.out _ _ | exact CL.out _ _ | exact CZ.out _ _))
       refine wpQuiet_nil ?_
       intro _ hw'
       obtain ⟨⟨dq,osq⟩,hw''⟩:=hw'
       subst hw''
       have hwq:=below_regrown wa dq osq
       generalize grow (redrawn wa dq) osq=w1 at hwq |-
       have HW:=Lib.hid hwq
       clear hwq k0 k1 k2 k3
       have hbw:=(HW.out.block w.heap.size HS0.out).trans HB0.out
       obtain ⟨⟨c0,c1,c2,c3⟩,-⟩:=Qs hbw
       have HBW:=Lib.hid hbw
       clear hbw
       go_wp2_with fail
       refine (Qk9 _ i o a n cp).mono ?_
       rintro e w2 ⟨rfl,hb2⟩
       have hs1:=Nat.lt_of_lt_of_le HS0.out HW.out.size
       clear c0 c1 c2 c3
       obtain ⟨⟨c0,c1,c2,c3⟩,-⟩:=Qs ((hb2.block w.heap.size hs1).trans HBW.out)
       have HE:=Lib.hid (HA.out.trans ((HW.out.mono HA.out.size).trans (hb2.mono (Nat.le_of_lt hs1))))
       clear hb2
       go_wp2_with fail
       go_ret
       exact ⟨rfl,HE.out⟩
     have hdv:d=false:=by
      rw [HDD.out]
      cases hk:inB 1 5 k with
      | false=>rfl
      | true=>have:=Qa2 hk;omega
     subst hdv
     clear HDD
     go_enter Tryz.func227,Tryz.ntmps227
     go_upto_region 1 with fail
     obtain ⟨⟨c0,c1,c2,c3⟩,-⟩:=Qs HB0.out
     generalize w.alloc (.cells #[.int .i64 k,.int .i64 i,.int .i64 o,.slice a n cp] 38 (0,0))=wa at HX HA HB0 HS0 c0 c1 c2 c3 |-
     have k0:=cell_regrown c0
     have k1:=cell_regrown c1
     have k2:=cell_regrown c2
     have k3:=cell_regrown c3
     have cI:=fun d os=>Calls.regrown_of (w:=wa) (d:=d) (os:=os) ((HI.out _).mono fun e w' h=>⟨h.1,h.2 ▸ Below.refl _ _⟩)
     have cO:=fun d os=>Calls.regrown_of (w:=wa) (d:=d) (os:=os) ((HO.out _).mono fun e w' h=>⟨h.1,h.2 ▸ Below.refl _ _⟩)
     have cL:=fun d os=>Calls.regrown_of (w:=wa) (d:=d) (os:=os) ((HL.out _ ((HX.out.below (below_regrown wa d os) HA.out.size).le (Nat.le_trans HA.out.size (below_regrown wa d os).size))).mono fun e w' h=>⟨h.1,h.2 ▸ Below.refl _ _⟩)
     have cZ:=fun d os=>Calls.regrown_of (w:=wa) (d:=d) (os:=os) (HZ.out _ ((HX.out.below (below_regrown wa d os) HA.out.size).le (Nat.le_trans HA.out.size (below_regrown wa d os).size)))
     have CI:=Lib.hid cI
     have CO:=Lib.hid cO
     have CL:=Lib.hid cL
     have CZ:=Lib.hid cZ
     clear c0 c1 c2 c3 cI cO cL cZ
     refine wp_region_quiet_below (by kernel_rfl) (by kernel_rfl) ?_
     repeat (go_big_quiet_step (with_reducible first | exact CI.out _ _ | exact CO.out _ _ | exact CL.out _ _ | exact CZ.out _ _))
     refine wpQuiet_nil ?_
     intro _ hw'
     obtain ⟨⟨dq,osq⟩,hw''⟩:=hw'
     subst hw''
     have hwq:=below_regrown wa dq osq
     generalize grow (redrawn wa dq) osq=w1 at hwq |-
     have HW:=Lib.hid hwq
     clear hwq k0 k1 k2 k3
     have hbw:=(HW.out.block w.heap.size HS0.out).trans HB0.out
     obtain ⟨⟨c0,c1,c2,c3⟩,-⟩:=Qs hbw
     have HBW:=Lib.hid hbw
     clear hbw
     go_wp2_with fail
     refine (Qqf _ k i o a n cp n1 n2 n3 n4 n5).mono ?_
     rintro e w2 ⟨rfl,hb2⟩
     have hs1:=Nat.lt_of_lt_of_le HS0.out HW.out.size
     clear c0 c1 c2 c3
     obtain ⟨⟨c0,c1,c2,c3⟩,-⟩:=Qs ((hb2.block w.heap.size hs1).trans HBW.out)
     have HE:=Lib.hid (HA.out.trans ((HW.out.mono HA.out.size).trans (hb2.mono (Nat.le_of_lt hs1))))
     clear hb2
     go_wp2_with fail
     go_ret
     exact ⟨rfl,HE.out⟩
   ·have hdf:d=false:=by rw [HD.out];exact Qqc (by rw [HN.out,hZ];exact h5)
    subst hdf
    have hne:((n:Int) == Z)=false:=by simpa using h5
    have hne':((n:Int) != Z)=true:=by simpa using h5
    rw [hi] at HI
    rw [ho] at HO
    clear hi ho hZ hq h5
    go_enter Tryz.func227,Tryz.ntmps227
    go_upto_region 1 with fail
    obtain ⟨⟨c0,c1,c2,c3⟩,-⟩:=Qs HB0.out
    generalize w.alloc (.cells #[.int .i64 k,.int .i64 i,.int .i64 o,.slice a n cp] 38 (0,0))=wa at HX HA HB0 HS0 c0 c1 c2 c3 |-
    have k0:=cell_regrown c0
    have k1:=cell_regrown c1
    have k2:=cell_regrown c2
    have k3:=cell_regrown c3
    have cI:=fun d os=>Calls.regrown_of (w:=wa) (d:=d) (os:=os) ((HI.out _).mono fun e w' h=>⟨h.1,h.2 ▸ Below.refl _ _⟩)
    have cO:=fun d os=>Calls.regrown_of (w:=wa) (d:=d) (os:=os) ((HO.out _).mono fun e w' h=>⟨h.1,h.2 ▸ Below.refl _ _⟩)
    have cL:=fun d os=>Calls.regrown_of (w:=wa) (d:=d) (os:=os) ((HL.out _ ((HX.out.below (below_regrown wa d os) HA.out.size).le (Nat.le_trans HA.out.size (below_regrown wa d os).size))).mono fun e w' h=>⟨h.1,h.2 ▸ Below.refl _ _⟩)
    have cZ:=fun d os=>Calls.regrown_of (w:=wa) (d:=d) (os:=os) (HZ.out _ ((HX.out.below (below_regrown wa d os) HA.out.size).le (Nat.le_trans HA.out.size (below_regrown wa d os).size)))
    have CI:=Lib.hid cI
    have CO:=Lib.hid cO
    have CL:=Lib.hid cL
    have CZ:=Lib.hid cZ
    clear c0 c1 c2 c3 cI cO cL cZ
    refine wp_region_quiet_below (by kernel_rfl) (by kernel_rfl) ?_
    repeat (go_big_quiet_step (with_reducible first | exact CI.out _ _ | exact CO.out _ _ | exact CL.out _ _ | exact CZ.out _ _))
    refine wpQuiet_nil ?_
    intro _ hw'
    obtain ⟨⟨dq,osq⟩,hw''⟩:=hw'
    subst hw''
    have hwq:=below_regrown wa dq osq
    generalize grow (redrawn wa dq) osq=w1 at hwq |-
    have HW:=Lib.hid hwq
    clear hwq k0 k1 k2 k3
    go_wp2_with fail
    go_ret
    exact ⟨rfl,HA.out.trans (HW.out.mono HA.out.size)⟩
end Go.Proofs.YtcooobnaocbdjaaGreatDoor
