import Derived.Test.YtcooobnaocbdjaaGreatDoorJoin7
import Derived.Test.YtcooobnaocbdjaaGreatDoorJoin8
import Derived.Deep.DeepCutAuto
import Derived.Deep.RegionLaw
import Derived.Lib.QuietBelow
import Derived.Test.YtcooobnaocbdjaaGreatDoorJoin3
/-! YtcooobnaocbdjaaGreatDoorPOpS -/
section
set_option maxRecDepth 100000
set_option maxHeartbeats 6400000
set_option linter.unusedVariables false
namespace Go.Proofs.YtcooobnaocbdjaaGreatDoor
open Go.RowKit Go.Sort
theorem Ql5 (k i o:Int) (ps xs:List Int):(fwN k i o ps xs).length<=6:=by
 cases h:fwOk k i o ps xs with
 | false=>rw [(Ql2 h).1];decide
 | true=>exact (Q8 (Qqw h).2).2.1
theorem Qhl {k i o:Int} (h:inB 1 6 i=false\/inB 1 6 o=false):opSz k i o=0:=by
 unfold opSz
 rcases h with h | h <;> rw [h] <;> simp
theorem Qk4 {k i o:Int} (hi:inB 1 6 i=true) (ho:inB 1 6 o=true):opSz k i o=(if k=1\/k=5 then i*o else if k=2 then i else if k=4 then 1 else 0):=by
 unfold opSz
 rw [hi,ho]
 rfl
theorem Qf5 (w:World) (k i o:Int) (a:Option Addr) (n cp:Nat) (xs:List Int) (h:IntsIn w.heap.size w a n xs) :
  Calls Tryz.prog 224 #[.agg #[.int .i64 k,.int .i64 i,.int .i64 o,.slice a n cp]] w fun e w'=>e = .returned (.int .i64 (opSz k i o))/\Below w.heap.size w w':=by
 have hal:Below w.heap.size w (w.alloc (.cells #[.int .i64 k,.int .i64 i,.int .i64 o,.slice a n cp] 38 (0,0))):=(Below.refl _ _).alloc (Nat.le_refl _) _
 have HA:=Lib.hid hal
 have HI:=Lib.hid (fun w=>Qag i 1 6 w)
 have HO:=Lib.hid (fun w=>Qag o 1 6 w)
 clear h hal
 obtain ⟨d,hd⟩ : ∃ d,d=opSz k i o:=⟨_,rfl⟩
 rw [<- hd]
 have HD:=Lib.hid hd
 clear hd
 cases hi:inB 1 6 i with
 | false =>
  have hdf:d=0:=by rw [HD.out];exact Qhl (.inl hi)
  subst hdf
  rw [hi] at HI
  clear hi
  go_enter Tryz.func224,Tryz.ntmps224
  go_wp2_with fail
  refine (HI.out _).mono ?_
  rintro e w' ⟨rfl,rfl⟩
  go_wp2_with fail
  go_ret
  exact ⟨rfl,HA.out⟩
 | true =>
  cases ho:inB 1 6 o with
  | false =>
   have hdf:d=0:=by rw [HD.out];exact Qhl (.inr ho)
   subst hdf
   rw [hi] at HI
   rw [ho] at HO
   clear hi ho
   go_enter Tryz.func224,Tryz.ntmps224
   go_wp2_with fail
   refine (HI.out _).mono ?_
   rintro e w' ⟨rfl,rfl⟩
   go_wp2_with fail
   refine (HO.out _).mono ?_
   rintro e w' ⟨rfl,rfl⟩
   go_wp2_with fail
   go_ret
   exact ⟨rfl,HA.out⟩
  | true =>
   have hp:=Qit hi ho
   have hdd:d=(if k=1\/k=5 then i*o else if k=2 then i else if k=4 then 1 else 0):=by rw [HD.out];exact Qk4 hi ho
   have HDD:=Lib.hid hdd
   obtain ⟨P,hP⟩ : ∃ P,i*o=P:=⟨_,rfl⟩
   have hw:wrap64 (i*o)=P:=by rw [IntWalk.wrap64_in (i*o) (by omega)];exact hP
   have HPP:=Lib.hid hP
   rw [hi] at HI
   rw [ho] at HO
   clear hi ho hp hdd hP
   go_enter Tryz.func224,Tryz.ntmps224
   go_wp2_with fail
   refine (HI.out _).mono ?_
   rintro e w' ⟨rfl,rfl⟩
   go_wp2_with fail
   refine (HO.out _).mono ?_
   rintro e w' ⟨rfl,rfl⟩
   by_cases k1:k=1
   ·subst k1
    have hdv:d=P:=by rw [HDD.out,if_pos (.inl rfl)];exact HPP.out
    subst hdv
    clear HDD HPP
    go_wp2_with fail
    go_ret
    exact ⟨by simp [hw],HA.out⟩
   ·by_cases k5:k=5
    ·subst k5
     have hdv:d=P:=by rw [HDD.out,if_pos (.inr rfl)];exact HPP.out
     subst hdv
     clear HDD HPP
     go_wp2_with fail
     go_ret
     exact ⟨by simp [hw],HA.out⟩
    ·by_cases k2:k=2
     ·subst k2
      have hdv:d=i:=by rw [HDD.out];simp
      subst hdv
      clear HDD HPP
      go_wp2_with fail
      go_ret
      exact ⟨rfl,HA.out⟩
     ·by_cases k4:k=4
      ·subst k4
       have hdv:d=1:=by rw [HDD.out];simp
       subst hdv
       clear HDD HPP
       go_wp2_with fail
       go_ret
       exact ⟨rfl,HA.out⟩
      ·have e1:(k == 1)=false:=by simpa using k1
       have e2:(k == 2)=false:=by simpa using k2
       have e4:(k == 4)=false:=by simpa using k4
       have e5:(k == 5)=false:=by simpa using k5
       have hd0:d=0:=by rw [HDD.out];simp [k1,k2,k4,k5]
       subst hd0
       go_wp2_with fail
       go_ret
       exact ⟨rfl,HA.out⟩
theorem Qrv {k i o:Int} {ps:List Int} (h:inB 1 5 k=false):Jz k i o ps=false:=by unfold Jz;rw [h];simp
theorem Qqa {k i o:Int} {ps:List Int} (h:inB 1 6 i=false):Jz k i o ps=false:=by unfold Jz;rw [h];simp
theorem Qqb {k i o:Int} {ps:List Int} (h:inB 1 6 o=false):Jz k i o ps=false:=by unfold Jz;rw [h];simp
theorem Qrw {k i o:Int} {ps:List Int} (h1 : ¬ k=1) (h2 : ¬ i=o):Jz k i o ps=false:=by unfold Jz;rw [decide_eq_false h1,decide_eq_false h2];simp
theorem Qqc {k i o:Int} {ps:List Int} (h : ¬ (ps.length:Int)=opSz k i o):Jz k i o ps=false:=by unfold Jz;rw [decide_eq_false h];simp
theorem Qpl {k i o:Int} {ps:List Int} (h1:inB 1 5 k=true) (h2:inB 1 6 i=true) (h3:inB 1 6 o=true) (h4:k=1\/i=o) (h5:(ps.length:Int)=opSz k i o):Jz k i o ps=ps.all okB:=by
 unfold Jz
 rw [h1,h2,h3,decide_eq_true h5]
 rcases h4 with h | h <;> simp [h]
theorem Qej (w:World) (k i o:Int) (a:Option Addr) (n cp:Nat) (xs:List Int) (h:IntsIn w.heap.size w a n xs) :
  Calls Tryz.prog 133 #[.agg #[.int .i64 k,.int .i64 i,.int .i64 o,.slice a n cp]] w fun e w'=>e = .returned (.bool (Jz k i o xs))/\Below w.heap.size w w':=by
 have hal:Below w.heap.size w (w.alloc (.cells #[.int .i64 k,.int .i64 i,.int .i64 o,.slice a n cp] 38 (0,0))):=(Below.refl _ _).alloc (Nat.le_refl _) _
 have hx:=h.below hal (Nat.le_refl _)
 have hroom:=h.room
 have hl:=h.len
 have HZ:=fun (w:World) (h:IntsIn w.heap.size w a n xs)=>Qf5 w k i o a n cp xs h
 have HX:=Lib.hid hx
 have HA:=Lib.hid hal
 have HK:=Lib.hid (fun w=>Qag k 1 5 w)
 have HI:=Lib.hid (fun w=>Qag i 1 6 w)
 have HO:=Lib.hid (fun w=>Qag o 1 6 w)
 have hb0:=heap_alloc_new w (.cells #[.int .i64 k,.int .i64 i,.int .i64 o,.slice a n cp] 38 (0,0))
 have HB0:=Lib.hid hb0
 have hs0:w.heap.size<(w.alloc (.cells #[.int .i64 k,.int .i64 i,.int .i64 o,.slice a n cp] 38 (0,0))).heap.size:=by simp
 have HS0:=Lib.hid hs0
 have HL:=Lib.hid hl
 obtain ⟨d,hd⟩ : ∃ d,d=Jz k i o xs:=⟨_,rfl⟩
 rw [<- hd]
 have HD:=Lib.hid hd
 obtain ⟨Z,hZ⟩ : ∃ Z,opSz k i o=Z:=⟨_,rfl⟩
 rw [hZ] at HZ
 have hp36:inB 1 6 i=true->inB 1 6 o=true->i*o<=36:=fun a b=>(Qit a b).2
 clear h hal hx hd hb0 hl hs0
 cases hk:inB 1 5 k with
 | false =>
  have hdf:d=false:=by rw [HD.out];exact Qrv hk
  subst hdf
  rw [hk] at HK
  replace HZ:=Lib.hid HZ
  clear hk hZ
  go_enter Tryz.func133,Tryz.ntmps133
  go_upto_region 1 with fail
  obtain ⟨⟨c0,c1,c2,c3⟩,-⟩:=Qs HB0.out
  generalize w.alloc (.cells #[.int .i64 k,.int .i64 i,.int .i64 o,.slice a n cp] 38 (0,0))=wa at HX HA HB0 HS0 c0 c1 c2 c3 |-
  have k0:=cell_regrown c0
  have k1:=cell_regrown c1
  have k2:=cell_regrown c2
  have k3:=cell_regrown c3
  have cK:=fun d os=>Calls.regrown_of (w:=wa) (d:=d) (os:=os) ((HK.out _).mono fun e w' h=>⟨h.1,h.2 ▸ Below.refl _ _⟩)
  have cI:=fun d os=>Calls.regrown_of (w:=wa) (d:=d) (os:=os) ((HI.out _).mono fun e w' h=>⟨h.1,h.2 ▸ Below.refl _ _⟩)
  have cO:=fun d os=>Calls.regrown_of (w:=wa) (d:=d) (os:=os) ((HO.out _).mono fun e w' h=>⟨h.1,h.2 ▸ Below.refl _ _⟩)
  have cZ:=fun d os=>Calls.regrown_of (w:=wa) (d:=d) (os:=os) (HZ.out _ ((HX.out.below (below_regrown wa d os) HA.out.size).le (Nat.le_trans HA.out.size (below_regrown wa d os).size)))
  have CK:=Lib.hid cK
  have CI:=Lib.hid cI
  have CO:=Lib.hid cO
  have CZ:=Lib.hid cZ
  clear c0 c1 c2 c3 cK cI cO cZ
  refine wp_region_quiet_below (by kernel_rfl) (by kernel_rfl) ?_
  repeat (go_big_quiet_step (with_reducible first | exact CK.out _ _ | exact CI.out _ _ | exact CO.out _ _ | exact CZ.out _ _))
  refine wpQuiet_nil ?_
  intro _ hw'
  obtain ⟨⟨dq,osq⟩,hw''⟩:=hw'
  subst hw''
  have hwq:=below_regrown wa dq osq
  generalize grow (redrawn wa dq) osq=w1 at hwq |-
  have HW:=Lib.hid hwq
  clear hwq k0 k1 k2 k3
  go_wp2_with fail
  go_ret
  exact ⟨rfl,HA.out.trans (HW.out.mono HA.out.size)⟩
 | true =>
  cases hi:inB 1 6 i with
  | false =>
   have hdf:d=false:=by rw [HD.out];exact Qqa hi
   subst hdf
   rw [hk] at HK
   rw [hi] at HI
   replace HZ:=Lib.hid HZ
   clear hk hi hZ
   go_enter Tryz.func133,Tryz.ntmps133
   go_upto_region 1 with fail
   obtain ⟨⟨c0,c1,c2,c3⟩,-⟩:=Qs HB0.out
   generalize w.alloc (.cells #[.int .i64 k,.int .i64 i,.int .i64 o,.slice a n cp] 38 (0,0))=wa at HX HA HB0 HS0 c0 c1 c2 c3 |-
   have k0:=cell_regrown c0
   have k1:=cell_regrown c1
   have k2:=cell_regrown c2
   have k3:=cell_regrown c3
   have cK:=fun d os=>Calls.regrown_of (w:=wa) (d:=d) (os:=os) ((HK.out _).mono fun e w' h=>⟨h.1,h.2 ▸ Below.refl _ _⟩)
   have cI:=fun d os=>Calls.regrown_of (w:=wa) (d:=d) (os:=os) ((HI.out _).mono fun e w' h=>⟨h.1,h.2 ▸ Below.refl _ _⟩)
   have cO:=fun d os=>Calls.regrown_of (w:=wa) (d:=d) (os:=os) ((HO.out _).mono fun e w' h=>⟨h.1,h.2 ▸ Below.refl _ _⟩)
   have cZ:=fun d os=>Calls.regrown_of (w:=wa) (d:=d) (os:=os) (HZ.out _ ((HX.out.below (below_regrown wa d os) HA.out.size).le (Nat.le_trans HA.out.size (below_regrown wa d os).size)))
   have CK:=Lib.hid cK
   have CI:=Lib.hid cI
   have CO:=Lib.hid cO
   have CZ:=Lib.hid cZ
   clear c0 c1 c2 c3 cK cI cO cZ
   refine wp_region_quiet_below (by kernel_rfl) (by kernel_rfl) ?_
   repeat (go_big_quiet_step (with_reducible first | exact CK.out _ _ | exact CI.out _ _ | exact CO.out _ _ | exact CZ.out _ _))
   refine wpQuiet_nil ?_
   intro _ hw'
   obtain ⟨⟨dq,osq⟩,hw''⟩:=hw'
   subst hw''
   have hwq:=below_regrown wa dq osq
   generalize grow (redrawn wa dq) osq=w1 at hwq |-
   have HW:=Lib.hid hwq
   clear hwq k0 k1 k2 k3
   go_wp2_with fail
   go_ret
   exact ⟨rfl,HA.out.trans (HW.out.mono HA.out.size)⟩
  | true =>
   cases ho:inB 1 6 o with
   | false =>
    have hdf:d=false:=by rw [HD.out];exact Qqb ho
    subst hdf
    rw [hk] at HK
    rw [hi] at HI
    rw [ho] at HO
    replace HZ:=Lib.hid HZ
    clear hk hi ho hZ
    go_enter Tryz.func133,Tryz.ntmps133
    go_upto_region 1 with fail
    obtain ⟨⟨c0,c1,c2,c3⟩,-⟩:=Qs HB0.out
    generalize w.alloc (.cells #[.int .i64 k,.int .i64 i,.int .i64 o,.slice a n cp] 38 (0,0))=wa at HX HA HB0 HS0 c0 c1 c2 c3 |-
    have k0:=cell_regrown c0
    have k1:=cell_regrown c1
    have k2:=cell_regrown c2
    have k3:=cell_regrown c3
    have cK:=fun d os=>Calls.regrown_of (w:=wa) (d:=d) (os:=os) ((HK.out _).mono fun e w' h=>⟨h.1,h.2 ▸ Below.refl _ _⟩)
    have cI:=fun d os=>Calls.regrown_of (w:=wa) (d:=d) (os:=os) ((HI.out _).mono fun e w' h=>⟨h.1,h.2 ▸ Below.refl _ _⟩)
    have cO:=fun d os=>Calls.regrown_of (w:=wa) (d:=d) (os:=os) ((HO.out _).mono fun e w' h=>⟨h.1,h.2 ▸ Below.refl _ _⟩)
    have cZ:=fun d os=>Calls.regrown_of (w:=wa) (d:=d) (os:=os) (HZ.out _ ((HX.out.below (below_regrown wa d os) HA.out.size).le (Nat.le_trans HA.out.size (below_regrown wa d os).size)))
    have CK:=Lib.hid cK
    have CI:=Lib.hid cI
    have CO:=Lib.hid cO
    have CZ:=Lib.hid cZ
    clear c0 c1 c2 c3 cK cI cO cZ
    refine wp_region_quiet_below (by kernel_rfl) (by kernel_rfl) ?_
    repeat (go_big_quiet_step (with_reducible first | exact CK.out _ _ | exact CI.out _ _ | exact CO.out _ _ | exact CZ.out _ _))
    refine wpQuiet_nil ?_
    intro _ hw'
    obtain ⟨⟨dq,osq⟩,hw''⟩:=hw'
    subst hw''
    have hwq:=below_regrown wa dq osq
    generalize grow (redrawn wa dq) osq=w1 at hwq |-
    have HW:=Lib.hid hwq
    clear hwq k0 k1 k2 k3
    go_wp2_with fail
    go_ret
    exact ⟨rfl,HA.out.trans (HW.out.mono HA.out.size)⟩
   | true =>
    by_cases h4:k=1\/i=o
    ·by_cases h5:(n:Int)=Z
     ·have hall:d=xs.all okB:=by rw [HD.out];exact Qpl hk hi ho h4 (by rw [HL.out,hZ];exact h5)
      have HAL:=Lib.hid hall
      subst h5
      rw [hk] at HK
      rw [hi] at HI
      rw [ho] at HO
      replace HZ:=Lib.hid HZ
      clear hk hi ho hZ hall
      have e4:k=1\/(¬ k=1/\i=o):=by
       by_cases e:k=1
       ·exact .inl e
       ·exact .inr ⟨e,h4.resolve_left e⟩
      clear h4
      rcases e4 with e4 | ⟨e4,e5⟩
      ·subst e4
       go_enter Tryz.func133,Tryz.ntmps133
       go_upto_region 1 with fail
       obtain ⟨⟨c0,c1,c2,c3⟩,-⟩:=Qs HB0.out
       generalize w.alloc (.cells #[.int .i64 1,.int .i64 i,.int .i64 o,.slice a n cp] 38 (0,0))=wa at HX HA HB0 HS0 c0 c1 c2 c3 |-
       have k0:=cell_regrown c0
       have k1:=cell_regrown c1
       have k2:=cell_regrown c2
       have k3:=cell_regrown c3
       have cK:=fun d os=>Calls.regrown_of (w:=wa) (d:=d) (os:=os) ((HK.out _).mono fun e w' h=>⟨h.1,h.2 ▸ Below.refl _ _⟩)
       have cI:=fun d os=>Calls.regrown_of (w:=wa) (d:=d) (os:=os) ((HI.out _).mono fun e w' h=>⟨h.1,h.2 ▸ Below.refl _ _⟩)
       have cO:=fun d os=>Calls.regrown_of (w:=wa) (d:=d) (os:=os) ((HO.out _).mono fun e w' h=>⟨h.1,h.2 ▸ Below.refl _ _⟩)
       have cZ:=fun d os=>Calls.regrown_of (w:=wa) (d:=d) (os:=os) (HZ.out _ ((HX.out.below (below_regrown wa d os) HA.out.size).le (Nat.le_trans HA.out.size (below_regrown wa d os).size)))
       have CK:=Lib.hid cK
       have CI:=Lib.hid cI
       have CO:=Lib.hid cO
       have CZ:=Lib.hid cZ
       clear c0 c1 c2 c3 cK cI cO cZ
       refine wp_region_quiet_below (by kernel_rfl) (by kernel_rfl) ?_
       repeat (go_big_quiet_step (with_reducible first | exact CK.out _ _ | exact CI.out _ _ | exact CO.out _ _ | exact CZ.out _ _))
       refine wpQuiet_nil ?_
       intro _ hw'
       obtain ⟨⟨dq,osq⟩,hw''⟩:=hw'
       subst hw''
       have hwq:=below_regrown wa dq osq
       generalize grow (redrawn wa dq) osq=w1 at hwq |-
       have HW:=Lib.hid hwq
       clear hwq k0 k1 k2 k3
       focus
        have HB:=Lib.hid (HA.out.trans (HW.out.mono HA.out.size))
        have HX1:=Lib.hid (HX.out.below HW.out HA.out.size)
        have hr0:=(HW.out.block w.heap.size HS0.out).trans HB0.out
        obtain ⟨⟨c0,c1,c2,c3⟩,-⟩:=Qs hr0
        clear hr0
        go_wp2_with fail
        go_loopw [3] (fun t wr => ∃ j:Nat,j<=n/\t = .int .i64 j/\Hid (∀ l,l<j->okB (xs.getD l 0)=true)/\wr=w1) (fun t _=>n-(intOf t).toNat)
        case atStart=>exact ⟨0,Nat.zero_le _,rfl,fun l hl=>absurd hl (Nat.not_lt_zero _),rfl⟩
        case round =>
         obtain ⟨j,hj,rfl,hsame,rfl⟩:=hrel
         by_cases hlt:j<n
         ·obtain ⟨b,p,rfl,hbB,hcell⟩:=HX1.out.cells j hlt
          obtain ⟨X,hX⟩ : ∃ X,X=xs.getD j 0:=⟨_,rfl⟩
          rw [<- hX] at hcell
          have HXX:=Lib.hid hX
          clear hX
          obtain ⟨o',ho'⟩ : ∃ o',okB X=o':=⟨_,rfl⟩
          have HS:=Lib.hid (fun w=>Qah X w)
          rw [ho'] at HS
          have HOO:=Lib.hid ho'
          clear ho'
          cases o'
          ·have hdf:d=false:=by rw [HAL.out];exact Qe6 (by rw [HX1.out.len];exact hlt) (by rw [<- HXX.out];exact HOO.out)
           subst hdf
           go_wp2_with fail
           refine (HS.out _).mono ?_
           rintro e w' ⟨rfl,rfl⟩
           go_wp2_with fail
           go_ret
           exact ⟨rfl,HB.out⟩
          ·go_wp2_with fail
           refine (HS.out _).mono ?_
           rintro e w' ⟨rfl,rfl⟩
           go_wp2_with fail
           go_roundw
           case rel =>
            refine ⟨j+1,by omega,by go_num,show Hid _ from fun l hl => ?_,trivial⟩
            by_cases e:l=j
            ·subst e;rw [<- HXX.out];exact HOO.out
            ·exact hsame.out l (by omega)
           case measure=>simp [intOf];omega
         ·obtain rfl:j=n:=by omega
          have hdt:d=true:=by
           rw [HAL.out]
           exact Qd2 fun l hl=>hsame.out l (by rw [HX1.out.len] at hl;exact hl)
          subst hdt
          go_wp2_with fail
          go_ret
          exact ⟨rfl,HB.out⟩
      ·subst e5
       have e6:(k == 1)=false:=by simpa using e4
       have e6b:(k != 1)=true:=by simpa using e4
       go_enter Tryz.func133,Tryz.ntmps133
       go_upto_region 1 with fail
       obtain ⟨⟨c0,c1,c2,c3⟩,-⟩:=Qs HB0.out
       generalize w.alloc (.cells #[.int .i64 k,.int .i64 i,.int .i64 i,.slice a n cp] 38 (0,0))=wa at HX HA HB0 HS0 c0 c1 c2 c3 |-
       have k0:=cell_regrown c0
       have k1:=cell_regrown c1
       have k2:=cell_regrown c2
       have k3:=cell_regrown c3
       have cK:=fun d os=>Calls.regrown_of (w:=wa) (d:=d) (os:=os) ((HK.out _).mono fun e w' h=>⟨h.1,h.2 ▸ Below.refl _ _⟩)
       have cI:=fun d os=>Calls.regrown_of (w:=wa) (d:=d) (os:=os) ((HI.out _).mono fun e w' h=>⟨h.1,h.2 ▸ Below.refl _ _⟩)
       have cO:=fun d os=>Calls.regrown_of (w:=wa) (d:=d) (os:=os) ((HO.out _).mono fun e w' h=>⟨h.1,h.2 ▸ Below.refl _ _⟩)
       have cZ:=fun d os=>Calls.regrown_of (w:=wa) (d:=d) (os:=os) (HZ.out _ ((HX.out.below (below_regrown wa d os) HA.out.size).le (Nat.le_trans HA.out.size (below_regrown wa d os).size)))
       have CK:=Lib.hid cK
       have CI:=Lib.hid cI
       have CO:=Lib.hid cO
       have CZ:=Lib.hid cZ
       clear c0 c1 c2 c3 cK cI cO cZ
       refine wp_region_quiet_below (by kernel_rfl) (by kernel_rfl) ?_
       repeat (go_big_quiet_step (with_reducible first | exact CK.out _ _ | exact CI.out _ _ | exact CO.out _ _ | exact CZ.out _ _))
       refine wpQuiet_nil ?_
       intro _ hw'
       obtain ⟨⟨dq,osq⟩,hw''⟩:=hw'
       subst hw''
       have hwq:=below_regrown wa dq osq
       generalize grow (redrawn wa dq) osq=w1 at hwq |-
       have HW:=Lib.hid hwq
       clear hwq k0 k1 k2 k3
       focus
        have HB:=Lib.hid (HA.out.trans (HW.out.mono HA.out.size))
        have HX1:=Lib.hid (HX.out.below HW.out HA.out.size)
        have hr0:=(HW.out.block w.heap.size HS0.out).trans HB0.out
        obtain ⟨⟨c0,c1,c2,c3⟩,-⟩:=Qs hr0
        clear hr0
        go_wp2_with fail
        go_loopw [3] (fun t wr => ∃ j:Nat,j<=n/\t = .int .i64 j/\Hid (∀ l,l<j->okB (xs.getD l 0)=true)/\wr=w1) (fun t _=>n-(intOf t).toNat)
        case atStart=>exact ⟨0,Nat.zero_le _,rfl,fun l hl=>absurd hl (Nat.not_lt_zero _),rfl⟩
        case round =>
         obtain ⟨j,hj,rfl,hsame,rfl⟩:=hrel
         by_cases hlt:j<n
         ·obtain ⟨b,p,rfl,hbB,hcell⟩:=HX1.out.cells j hlt
          obtain ⟨X,hX⟩ : ∃ X,X=xs.getD j 0:=⟨_,rfl⟩
          rw [<- hX] at hcell
          have HXX:=Lib.hid hX
          clear hX
          obtain ⟨o',ho'⟩ : ∃ o',okB X=o':=⟨_,rfl⟩
          have HS:=Lib.hid (fun w=>Qah X w)
          rw [ho'] at HS
          have HOO:=Lib.hid ho'
          clear ho'
          cases o'
          ·have hdf:d=false:=by rw [HAL.out];exact Qe6 (by rw [HX1.out.len];exact hlt) (by rw [<- HXX.out];exact HOO.out)
           subst hdf
           go_wp2_with fail
           refine (HS.out _).mono ?_
           rintro e w' ⟨rfl,rfl⟩
           go_wp2_with fail
           go_ret
           exact ⟨rfl,HB.out⟩
          ·go_wp2_with fail
           refine (HS.out _).mono ?_
           rintro e w' ⟨rfl,rfl⟩
           go_wp2_with fail
           go_roundw
           case rel =>
            refine ⟨j+1,by omega,by go_num,show Hid _ from fun l hl => ?_,trivial⟩
            by_cases e:l=j
            ·subst e;rw [<- HXX.out];exact HOO.out
            ·exact hsame.out l (by omega)
           case measure=>simp [intOf];omega
         ·obtain rfl:j=n:=by omega
          have hdt:d=true:=by
           rw [HAL.out]
           exact Qd2 fun l hl=>hsame.out l (by rw [HX1.out.len] at hl;exact hl)
          subst hdt
          go_wp2_with fail
          go_ret
          exact ⟨rfl,HB.out⟩
     ·have hdf:d=false:=by rw [HD.out];exact Qqc (by rw [HL.out,hZ];exact h5)
      subst hdf
      have hne:((n:Int) == Z)=false:=by simpa using h5
      rw [hk] at HK
      rw [hi] at HI
      rw [ho] at HO
      replace HZ:=Lib.hid HZ
      clear hk hi ho hZ
      have e4:k=1\/(¬ k=1/\i=o):=by
       by_cases e:k=1
       ·exact .inl e
       ·exact .inr ⟨e,h4.resolve_left e⟩
      clear h4
      rcases e4 with e4 | ⟨e4,e5⟩
      ·subst e4
       go_enter Tryz.func133,Tryz.ntmps133
       go_upto_region 1 with fail
       obtain ⟨⟨c0,c1,c2,c3⟩,-⟩:=Qs HB0.out
       generalize w.alloc (.cells #[.int .i64 1,.int .i64 i,.int .i64 o,.slice a n cp] 38 (0,0))=wa at HX HA HB0 HS0 c0 c1 c2 c3 |-
       have k0:=cell_regrown c0
       have k1:=cell_regrown c1
       have k2:=cell_regrown c2
       have k3:=cell_regrown c3
       have cK:=fun d os=>Calls.regrown_of (w:=wa) (d:=d) (os:=os) ((HK.out _).mono fun e w' h=>⟨h.1,h.2 ▸ Below.refl _ _⟩)
       have cI:=fun d os=>Calls.regrown_of (w:=wa) (d:=d) (os:=os) ((HI.out _).mono fun e w' h=>⟨h.1,h.2 ▸ Below.refl _ _⟩)
       have cO:=fun d os=>Calls.regrown_of (w:=wa) (d:=d) (os:=os) ((HO.out _).mono fun e w' h=>⟨h.1,h.2 ▸ Below.refl _ _⟩)
       have cZ:=fun d os=>Calls.regrown_of (w:=wa) (d:=d) (os:=os) (HZ.out _ ((HX.out.below (below_regrown wa d os) HA.out.size).le (Nat.le_trans HA.out.size (below_regrown wa d os).size)))
       have CK:=Lib.hid cK
       have CI:=Lib.hid cI
       have CO:=Lib.hid cO
       have CZ:=Lib.hid cZ
       clear c0 c1 c2 c3 cK cI cO cZ
       refine wp_region_quiet_below (by kernel_rfl) (by kernel_rfl) ?_
       repeat (go_big_quiet_step (with_reducible first | exact CK.out _ _ | exact CI.out _ _ | exact CO.out _ _ | exact CZ.out _ _))
       refine wpQuiet_nil ?_
       intro _ hw'
       obtain ⟨⟨dq,osq⟩,hw''⟩:=hw'
       subst hw''
       have hwq:=below_regrown wa dq osq
       generalize grow (redrawn wa dq) osq=w1 at hwq |-
       have HW:=Lib.hid hwq
       clear hwq k0 k1 k2 k3
       focus
        have HB:=Lib.hid (HA.out.trans (HW.out.mono HA.out.size))
        go_wp2_with fail
        go_ret
        exact ⟨rfl,HB.out⟩
      ·subst e5
       have e6:(k == 1)=false:=by simpa using e4
       have e6b:(k != 1)=true:=by simpa using e4
       go_enter Tryz.func133,Tryz.ntmps133
       go_upto_region 1 with fail
       obtain ⟨⟨c0,c1,c2,c3⟩,-⟩:=Qs HB0.out
       generalize w.alloc (.cells #[.int .i64 k,.int .i64 i,.int .i64 i,.slice a n cp] 38 (0,0))=wa at HX HA HB0 HS0 c0 c1 c2 c3 |-
       have k0:=cell_regrown c0
       have k1:=cell_regrown c1
       have k2:=cell_regrown c2
       have k3:=cell_regrown c3
       have cK:=fun d os=>Calls.regrown_of (w:=wa) (d:=d) (os:=os) ((HK.out _).mono fun e w' h=>⟨h.1,h.2 ▸ Below.refl _ _⟩)
       have cI:=fun d os=>Calls.regrown_of (w:=wa) (d:=d) (os:=os) ((HI.out _).mono fun e w' h=>⟨h.1,h.2 ▸ Below.refl _ _⟩)
       have cO:=fun d os=>Calls.regrown_of (w:=wa) (d:=d) (os:=os) ((HO.out _).mono fun e w' h=>⟨h.1,h.2 ▸ Below.refl _ _⟩)
       have cZ:=fun d os=>Calls.regrown_of (w:=wa) (d:=d) (os:=os) (HZ.out _ ((HX.out.below (below_regrown wa d os) HA.out.size).le (Nat.le_trans HA.out.size (below_regrown wa d os).size)))
       have CK:=Lib.hid cK
       have CI:=Lib.hid cI
       have CO:=Lib.hid cO
       have CZ:=Lib.hid cZ
       clear c0 c1 c2 c3 cK cI cO cZ
       refine wp_region_quiet_below (by kernel_rfl) (by kernel_rfl) ?_
       repeat (go_big_quiet_step (with_reducible first | exact CK.out _ _ | exact CI.out _ _ | exact CO.out _ _ | exact CZ.out _ _))
       refine wpQuiet_nil ?_
       intro _ hw'
       obtain ⟨⟨dq,osq⟩,hw''⟩:=hw'
       subst hw''
       have hwq:=below_regrown wa dq osq
       generalize grow (redrawn wa dq) osq=w1 at hwq |-
       have HW:=Lib.hid hwq
       clear hwq k0 k1 k2 k3
       focus
        have HB:=Lib.hid (HA.out.trans (HW.out.mono HA.out.size))
        go_wp2_with fail
        go_ret
        exact ⟨rfl,HB.out⟩
    ·have h41 : ¬ k=1:=fun e=>h4 (.inl e)
     have h42 : ¬ i=o:=fun e=>h4 (.inr e)
     have hdf:d=false:=by rw [HD.out];exact Qrw h41 h42
     subst hdf
     have e6:(k == 1)=false:=by simpa using h41
     have e6b:(k != 1)=true:=by simpa using h41
     have e7:(i == o)=false:=by simpa using h42
     have e7b:(i != o)=true:=by simpa using h42
     rw [hk] at HK
     rw [hi] at HI
     rw [ho] at HO
     replace HZ:=Lib.hid HZ
     clear hk hi ho hZ h4 h41 h42
     go_enter Tryz.func133,Tryz.ntmps133
     go_upto_region 1 with fail
     obtain ⟨⟨c0,c1,c2,c3⟩,-⟩:=Qs HB0.out
     generalize w.alloc (.cells #[.int .i64 k,.int .i64 i,.int .i64 o,.slice a n cp] 38 (0,0))=wa at HX HA HB0 HS0 c0 c1 c2 c3 |-
     have k0:=cell_regrown c0
     have k1:=cell_regrown c1
     have k2:=cell_regrown c2
     have k3:=cell_regrown c3
     have cK:=fun d os=>Calls.regrown_of (w:=wa) (d:=d) (os:=os) ((HK.out _).mono fun e w' h=>⟨h.1,h.2 ▸ Below.refl _ _⟩)
     have cI:=fun d os=>Calls.regrown_of (w:=wa) (d:=d) (os:=os) ((HI.out _).mono fun e w' h=>⟨h.1,h.2 ▸ Below.refl _ _⟩)
     have cO:=fun d os=>Calls.regrown_of (w:=wa) (d:=d) (os:=os) ((HO.out _).mono fun e w' h=>⟨h.1,h.2 ▸ Below.refl _ _⟩)
     have cZ:=fun d os=>Calls.regrown_of (w:=wa) (d:=d) (os:=os) (HZ.out _ ((HX.out.below (below_regrown wa d os) HA.out.size).le (Nat.le_trans HA.out.size (below_regrown wa d os).size)))
     have CK:=Lib.hid cK
     have CI:=Lib.hid cI
     have CO:=Lib.hid cO
     have CZ:=Lib.hid cZ
     clear c0 c1 c2 c3 cK cI cO cZ
     refine wp_region_quiet_below (by kernel_rfl) (by kernel_rfl) ?_
     repeat (go_big_quiet_step (with_reducible first | exact CK.out _ _ | exact CI.out _ _ | exact CO.out _ _ | exact CZ.out _ _))
     refine wpQuiet_nil ?_
     intro _ hw'
     obtain ⟨⟨dq,osq⟩,hw''⟩:=hw'
     subst hw''
     have hwq:=below_regrown wa dq osq
     generalize grow (redrawn wa dq) osq=w1 at hwq |-
     have HW:=Lib.hid hwq
     clear hwq k0 k1 k2 k3
     go_wp2_with fail
     go_ret
     exact ⟨rfl,HA.out.trans (HW.out.mono HA.out.size)⟩
end Go.Proofs.YtcooobnaocbdjaaGreatDoor

end

/-! YtcooobnaocbdjaaGreatDoorPOpF -/
section
set_option maxRecDepth 100000
set_option maxHeartbeats 6400000
set_option linter.unusedVariables false
namespace Go.Proofs.YtcooobnaocbdjaaGreatDoor
open Go.RowKit
theorem Qiv (w:World) (k i o:Int) (a:Option Addr) (n cp:Nat) :
  Calls Tryz.prog 244 #[.agg #[.int .i64 k,.int .i64 i,.int .i64 o,.slice a n cp]] w fun e w'=>e = .returned (.agg #[.int .i64 o,.int .i64 i,.slice a n cp])/\Below w.heap.size w w':=by
 have hal:Below w.heap.size w (w.alloc (.cells #[.int .i64 k,.int .i64 i,.int .i64 o,.slice a n cp] 38 (0,0))):=(Below.refl _ _).alloc (Nat.le_refl _) _
 go_enter Tryz.func244,Tryz.ntmps244
 go_wp2_with fail
 refine bodyPost_ret (results_cell_row rfl _ _ (w.heap.size+1) 276 #[.int .i64 o,.int .i64 i,.slice a n cp] (0,0) _ rfl ?_ Tryz.underlying276 rfl (by kernel_rfl)) rfl ?_
 ·have:=heap_alloc_new (w.alloc (.cells #[.int .i64 k,.int .i64 i,.int .i64 o,.slice a n cp] 38 (0,0))) (.cells #[.int .i64 o,.int .i64 i,.slice a n cp] 276 (0,0))
  rw [World.size_alloc] at this
  exact this
 exact ⟨rfl,hal.alloc (by simp) _⟩
theorem Qgv {k i o:Int} {ps xs:List Int} (h:fwOk k i o ps xs=true):fwN k i o ps xs=(if k=1 then mvN o i ps xs else if k=2 then rowP addN xs ps else if k=3 then rowP (fun x _=>Qaq x) xs xs else if k=4 then Qas (ps.getD 0 0) xs else rowP addN xs (mvN o i ps xs)) /\
  fwB k i o ps xs=(if k=1 then mvB o i ps xs else if k=2 then Qbi addB xs ps else if k=3 then false else if k=4 then Qbr (ps.getD 0 0) xs else mvB o i ps xs || Qbi addB xs (mvN o i ps xs)):=by
 unfold fwN fwB
 rw [h]
 exact ⟨rfl,rfl⟩
theorem Qd6 (w:World) (k i o:Int) (a:Option Addr) (n cp:Nat) (ps:List Int) (a2:Option Addr) (n2 c4:Nat) (xs:List Int) (h1:IntsIn w.heap.size w a n ps) (hcp:n<=cp) (hcap:cp<=9223372036854775807) (h2:IntsIn w.heap.size w a2 n2 xs) :
  Calls Tryz.prog 168 #[.agg #[.int .i64 k,.int .i64 i,.int .i64 o,.slice a n cp],.slice a2 n2 c4] w (RowB w (fwN k i o ps xs) (fwB k i o ps xs)):=by
 have hal:Below w.heap.size w (w.alloc (.cells #[.int .i64 k,.int .i64 i,.int .i64 o,.slice a n cp] 38 (0,0))):=(Below.refl _ _).alloc (Nat.le_refl _) _
 have hb0:=heap_alloc_new w (.cells #[.int .i64 k,.int .i64 i,.int .i64 o,.slice a n cp] 38 (0,0))
 have hs0:(w.alloc (.cells #[.int .i64 k,.int .i64 i,.int .i64 o,.slice a n cp] 38 (0,0))).heap.size=w.heap.size+1:=by simp
 have l1:=h1.len
 have l2:=h2.len
 have HP:=Lib.hid (h1.below hal (Nat.le_refl _))
 have HX:=Lib.hid (h2.below hal (Nat.le_refl _))
 have HA:=Lib.hid hal
 have HB0:=Lib.hid hb0
 have HM:=fun (w:World) (h:IntsIn w.heap.size w a n ps)=>Qej w k i o a n cp ps h
 have HV:=fun (w:World) (h:IntsIn w.heap.size w a2 n2 xs)=>Qu w a2 n2 c4 xs h
 have hroom:=h2.room
 clear h1 h2 hal hb0
 cases hk:Jz k i o ps with
 | false =>
  have hf:fwOk k i o ps xs=false:=by unfold fwOk;rw [hk];rfl
  obtain ⟨e1,e2⟩:=Ql2 hf
  rw [e1,e2]
  rw [hk] at HM
  replace HM:=Lib.hid HM
  clear hk hf e1 e2 HV l1 l2
  go_enter Tryz.func168,Tryz.ntmps168
  go_wp2_with fail
  generalize w.alloc (.cells #[.int .i64 k,.int .i64 i,.int .i64 o,.slice a n cp] 38 (0,0))=wa at HP HX HA HB0 hs0 |-
  refine (HM.out _ (HP.out.le (by omega))).mono ?_
  rintro e w1 ⟨rfl,hb⟩
  have HB:=Lib.hid (HA.out.trans (hb.mono (by omega)))
  clear hb
  go_wp2_with fail
  go_ret2
  exact ⟨_,rfl,(Row.empty w1 _ rfl).le (HB.out.size),HB.out.alloc HB.out.size _⟩
 | true =>
  rw [hk] at HM
  replace HM:=Lib.hid HM
  cases hv:Qm xs with
  | false =>
   have hf:fwOk k i o ps xs=false:=by unfold fwOk;rw [hk,hv];rfl
   obtain ⟨e1,e2⟩:=Ql2 hf
   rw [e1,e2]
   rw [hv] at HV
   replace HV:=Lib.hid HV
   clear hk hv hf e1 e2 l1 l2
   go_enter Tryz.func168,Tryz.ntmps168
   go_wp2_with fail
   generalize w.alloc (.cells #[.int .i64 k,.int .i64 i,.int .i64 o,.slice a n cp] 38 (0,0))=wa at HP HX HA HB0 hs0 |-
   refine (HM.out _ (HP.out.le (by omega))).mono ?_
   rintro e w1 ⟨rfl,hb⟩
   have hsz:=hb.size
   have HB:=Lib.hid (HA.out.trans (hb.mono (by omega)))
   have HX1:=Lib.hid (HX.out.below hb (by omega))
   clear hb
   go_wp2_with fail
   refine (HV.out _ (HX1.out.le (by omega))).mono ?_
   rintro e w' ⟨rfl,rfl⟩
   go_wp2_with fail
   go_ret2
   exact ⟨_,rfl,(Row.empty w1 _ rfl).le (HB.out.size),HB.out.alloc HB.out.size _⟩
  | true =>
   by_cases hn:(n2:Int)=i
   ·have hf:fwOk k i o ps xs=true:=by unfold fwOk;rw [hk,hv,l2,decide_eq_true hn];rfl
    obtain ⟨e1,e2⟩:=Qgv hf
    rw [e1,e2]
    obtain ⟨m,q,hi,ho,hm,hq,hio,hk5,hps,-⟩:=Qin hk
    rw [l1,hi,ho,Qnr hm hq] at hps
    rw [hv] at HV
    replace HV:=Lib.hid HV
    have hb5:=Qa2 hk5
    have hkk:k=1\/k=2\/k=3\/k=4\/k=5:=by omega
    clear hk hv hf e1 e2 hk5 hb5 hi ho hio
    rcases hkk with rfl | rfl | rfl | rfl | rfl
    ·simp only [Int.reduceEq,if_true,if_false,or_false] at hps |-
     go_enter Tryz.func168,Tryz.ntmps168
     go_wp2_with fail
     generalize w.alloc (.cells #[.int .i64 1,.int .i64 i,.int .i64 o,.slice a n cp] 38 (0,0))=wa at HP HX HA HB0 hs0 |-
     refine (HM.out _ (HP.out.le (by omega))).mono ?_
     rintro e w1 ⟨rfl,hb⟩
     have hsz:=hb.size
     have HB:=Lib.hid (HA.out.trans (hb.mono (by omega)))
     have HX1:=Lib.hid (HX.out.below hb (by omega))
     have HP1:=Lib.hid (HP.out.below hb (by omega))
     obtain ⟨⟨c0,c1,c2,c3⟩,-⟩:=Qs ((hb.block w.heap.size (by omega)).trans HB0.out)
     clear hb
     go_wp2_with fail
     refine (HV.out _ (HX1.out.le (by omega))).mono ?_
     rintro e w' ⟨rfl,rfl⟩
     go_wp2_with fail
     refine (Qiv _ _ _ _ _ _ _).mono ?_
     rintro e w2 ⟨rfl,hb2⟩
     have hs2:=hb2.size
     have HB2:=Lib.hid hb2
     clear hb2
     go_wp2_with fail
     refine (Qc6 w2 o i a n cp ps a2 n2 c4 xs ((HP1.out.below HB2.out (by omega)).le (by omega)) hcp hcap ((HX1.out.below HB2.out (by omega)).le (by omega))).mono ?_
     rintro e w3 ⟨v,rfl,hr,hb3⟩
     have HB3:=Lib.hid hb3
     have HR3:=Lib.hid hr
     clear hb3 hr
     go_wp2_with fail
     go_ret2
     exact ⟨_,rfl,HR3.out.le (by omega),HB.out.trans (HB2.out.mono (by omega) |>.trans (HB3.out.mono (by omega)))⟩
    ·simp only [Int.reduceEq,if_true,if_false,or_self] at hps |-
     go_enter Tryz.func168,Tryz.ntmps168
     go_wp2_with fail
     generalize w.alloc (.cells #[.int .i64 2,.int .i64 i,.int .i64 o,.slice a n cp] 38 (0,0))=wa at HP HX HA HB0 hs0 |-
     refine (HM.out _ (HP.out.le (by omega))).mono ?_
     rintro e w1 ⟨rfl,hb⟩
     have hsz:=hb.size
     have HB:=Lib.hid (HA.out.trans (hb.mono (by omega)))
     have HX1:=Lib.hid (HX.out.below hb (by omega))
     have HP1:=Lib.hid (HP.out.below hb (by omega))
     obtain ⟨⟨c0,c1,c2,c3⟩,-⟩:=Qs ((hb.block w.heap.size (by omega)).trans HB0.out)
     clear hb
     go_wp2_with fail
     refine (HV.out _ (HX1.out.le (by omega))).mono ?_
     rintro e w' ⟨rfl,rfl⟩
     go_wp2_with fail
     refine (Qc4 w1 a2 n2 c4 xs a n cp ps (HX1.out.le (by omega)) (HP1.out.le (by omega))).mono ?_
     rintro e w3 ⟨v,rfl,hr,hb3⟩
     have HB3:=Lib.hid hb3
     have HR3:=Lib.hid hr
     clear hb3 hr
     go_wp2_with fail
     go_ret2
     exact ⟨_,rfl,HR3.out.le (by omega),HB.out.trans (HB3.out.mono (by omega))⟩
    ·simp only [Int.reduceEq,if_true,if_false,or_self] at hps |-
     go_enter Tryz.func168,Tryz.ntmps168
     go_wp2_with fail
     generalize w.alloc (.cells #[.int .i64 3,.int .i64 i,.int .i64 o,.slice a n cp] 38 (0,0))=wa at HP HX HA HB0 hs0 |-
     refine (HM.out _ (HP.out.le (by omega))).mono ?_
     rintro e w1 ⟨rfl,hb⟩
     have hsz:=hb.size
     have HB:=Lib.hid (HA.out.trans (hb.mono (by omega)))
     have HX1:=Lib.hid (HX.out.below hb (by omega))
     have HP1:=Lib.hid (HP.out.below hb (by omega))
     obtain ⟨⟨c0,c1,c2,c3⟩,-⟩:=Qs ((hb.block w.heap.size (by omega)).trans HB0.out)
     clear hb
     go_wp2_with fail
     refine (HV.out _ (HX1.out.le (by omega))).mono ?_
     rintro e w' ⟨rfl,rfl⟩
     go_wp2_with fail
     refine (Qfe w1 a2 n2 c4 xs (HX1.out.le (by omega))).mono ?_
     rintro e w3 ⟨v,rfl,hr,hb3⟩
     have HB3:=Lib.hid hb3
     have HR3:=Lib.hid hr
     clear hb3 hr
     go_wp2_with fail
     go_ret2
     exact ⟨_,rfl,HR3.out.le (by omega),HB.out.trans (HB3.out.mono (by omega))⟩
    ·simp only [Int.reduceEq,if_true,if_false,or_self] at hps |-
     obtain ⟨Y,hY⟩ : ∃ Y,Y=ps.getD 0 0:=⟨_,rfl⟩
     rw [<- hY]
     have HYY:=Lib.hid hY
     clear hY
     go_enter Tryz.func168,Tryz.ntmps168
     go_wp2_with fail
     generalize w.alloc (.cells #[.int .i64 4,.int .i64 i,.int .i64 o,.slice a n cp] 38 (0,0))=wa at HP HX HA HB0 hs0 |-
     refine (HM.out _ (HP.out.le (by omega))).mono ?_
     rintro e w1 ⟨rfl,hb⟩
     have hsz:=hb.size
     have HB:=Lib.hid (HA.out.trans (hb.mono (by omega)))
     have HX1:=Lib.hid (HX.out.below hb (by omega))
     have HP1:=Lib.hid (HP.out.below hb (by omega))
     obtain ⟨⟨c0,c1,c2,c3⟩,-⟩:=Qs ((hb.block w.heap.size (by omega)).trans HB0.out)
     clear hb
     go_wp2_with fail
     refine (HV.out _ (HX1.out.le (by omega))).mono ?_
     rintro e w' ⟨rfl,rfl⟩
     obtain ⟨b,p,rfl,hbB,hcell⟩:=HP1.out.cells 0 (by omega)
     rw [<- HYY.out] at hcell
     have hcell':w1.cell? ⟨b,p,none⟩=some (.int .i64 Y):=hcell
     clear hcell
     have hn1:n=1:=by omega
     go_wp2_with fail
     refine (Qer Y w1 a2 n2 c4 xs (HX1.out.le (by omega))).mono ?_
     rintro e w3 ⟨v,rfl,hr,hb3⟩
     have HB3:=Lib.hid hb3
     have HR3:=Lib.hid hr
     clear hb3 hr
     go_wp2_with fail
     go_ret2
     exact ⟨_,rfl,HR3.out.le (by omega),HB.out.trans (HB3.out.mono (by omega))⟩
    ·simp only [Int.reduceEq,if_true,if_false,or_true] at hps |-
     have hl6:=Qgr o i ps xs
     have HMV:=fun (w:World) (h1:IntsIn w.heap.size w a n ps) (h2:IntsIn w.heap.size w a2 n2 xs)=>Qc6 w o i a n cp ps a2 n2 c4 xs h1 hcp hcap h2
     obtain ⟨zs,hzs⟩ : ∃ zs,mvN o i ps xs=zs:=⟨_,rfl⟩
     obtain ⟨mb,hmb⟩ : ∃ mb,mvB o i ps xs=mb:=⟨_,rfl⟩
     rw [hzs,hmb] at HMV
     rw [hzs] at hl6
     rw [hzs,hmb]
     replace HMV:=Lib.hid HMV
     clear hzs hmb
     go_enter Tryz.func168,Tryz.ntmps168
     go_wp2_with fail
     generalize w.alloc (.cells #[.int .i64 5,.int .i64 i,.int .i64 o,.slice a n cp] 38 (0,0))=wa at HP HX HA HB0 hs0 |-
     refine (HM.out _ (HP.out.le (by omega))).mono ?_
     rintro e w1 ⟨rfl,hb⟩
     have hsz:=hb.size
     have HB:=Lib.hid (HA.out.trans (hb.mono (by omega)))
     have HX1:=Lib.hid (HX.out.below hb (by omega))
     have HP1:=Lib.hid (HP.out.below hb (by omega))
     obtain ⟨⟨c0,c1,c2,c3⟩,-⟩:=Qs ((hb.block w.heap.size (by omega)).trans HB0.out)
     clear hb
     go_wp2_with fail
     refine (HV.out _ (HX1.out.le (by omega))).mono ?_
     rintro e w' ⟨rfl,rfl⟩
     go_wp2_with fail
     refine (Qiv _ _ _ _ _ _ _).mono ?_
     rintro e w2 ⟨rfl,hb2⟩
     have hs2:=hb2.size
     have HB2:=Lib.hid hb2
     clear hb2
     go_wp2_with fail
     refine (HMV.out w2 ((HP1.out.below HB2.out (by omega)).le (by omega)) ((HX1.out.below HB2.out (by omega)).le (by omega))).mono ?_
     rintro e w3 ⟨v,rfl,hr,hb3⟩
     obtain ⟨z,hz⟩ : ∃ z,zs.length=z:=⟨_,rfl⟩
     obtain ⟨a5,c5,rfl,hi5⟩:=hr.form' (Lib.hid hz) (by omega)
     have hs3:=hb3.size
     have HT:=Lib.hid (Qc4 w3 a2 n2 c4 xs a5 z c5 zs (((HX1.out.below HB2.out (by omega)).below hb3 (by omega)).le (by omega)) hi5)
     have HB3:=Lib.hid hb3
     clear hb3 hr hi5
     cases mb
     all_goals
      go_wp2_with fail
      refine HT.out.mono ?_
      rintro e w4 ⟨v4,rfl,hr4,hb4⟩
      have HB4:=Lib.hid hb4
      have HR4:=Lib.hid hr4
      clear hb4 hr4
      go_wp2_with fail
      go_ret2
      exact ⟨_,rfl,HR4.out.le (by omega),HB.out.trans (HB2.out.mono (by omega) |>.trans ((HB3.out.mono (by omega)).trans (HB4.out.mono (by omega))))⟩
   ·have hf:fwOk k i o ps xs=false:=by unfold fwOk;rw [hk,hv,l2,decide_eq_false hn];rfl
    obtain ⟨e1,e2⟩:=Ql2 hf
    rw [e1,e2]
    rw [hv] at HV
    replace HV:=Lib.hid HV
    have hne:((n2:Int) == i)=false:=by simpa using hn
    clear hk hv hf e1 e2 l1 l2 hn
    go_enter Tryz.func168,Tryz.ntmps168
    go_wp2_with fail
    generalize w.alloc (.cells #[.int .i64 k,.int .i64 i,.int .i64 o,.slice a n cp] 38 (0,0))=wa at HP HX HA HB0 hs0 |-
    refine (HM.out _ (HP.out.le (by omega))).mono ?_
    rintro e w1 ⟨rfl,hb⟩
    have hsz:=hb.size
    have HB:=Lib.hid (HA.out.trans (hb.mono (by omega)))
    have HX1:=Lib.hid (HX.out.below hb (by omega))
    have HP1:=Lib.hid (HP.out.below hb (by omega))
    obtain ⟨⟨c0,c1,c2,c3⟩,-⟩:=Qs ((hb.block w.heap.size (by omega)).trans HB0.out)
    clear hb
    go_wp2_with fail
    refine (HV.out _ (HX1.out.le (by omega))).mono ?_
    rintro e w' ⟨rfl,rfl⟩
    go_wp2_with fail
    go_ret2
    exact ⟨_,rfl,(Row.empty w1 _ rfl).le (HB.out.size),HB.out.alloc HB.out.size _⟩
end Go.Proofs.YtcooobnaocbdjaaGreatDoor

end

/-! YtcooobnaocbdjaaGreatDoorPOpB -/
section
set_option linter.unusedVariables false
namespace Go.Proofs.YtcooobnaocbdjaaGreatDoor
open Go.RowKit
def Qnv (v u:Value):Prop:= ∀ k,v.ownBlock=some k->u.ownBlock≠some k
def Qsw (w:World) (zs gs:List Int) (o:Bool) (e:Ending) (w':World):Prop:= ∃ v u,e = .returned (.tuple #[v,u,.bool o])/\Row w.heap.size w' v zs/\Row w.heap.size w' u gs/\Qnv v u/\Below w.heap.size w w'
theorem Qnv.ne {v u:Value} (h:Qnv v u):u.ownBlock=none\/u.ownBlock≠v.ownBlock:=by
 cases hv:v.ownBlock with
 | none =>
  cases hu:u.ownBlock with
  | none=>exact .inl rfl
  | some k=>exact .inr (by simp)
 | some k=>exact .inr (h k hv)
theorem Qgw (w:World):(w.alloc (.cells #[] 3 (0,0))).ownsRow w.heap.size 3 1 (.slice (some ⟨w.heap.size,0,none⟩) 0 0) 0 []:=Row.empty w _ rfl
theorem Qiw {base:Nat} {w:World} {v:Value} {n:Nat} {ds:List Int} (h:w.ownsRow base 3 1 v (0+n) ([] ++ Qp ds)):Row base w v ds:=by
 have hl:ds.length=n:=by
  have:=h.1
  rw [List.nil_append,Z5] at this
  omega
 unfold Row
 rw [hl]
 simpa using h
theorem Row.one (w:World) (x:Int):Row w.heap.size (w.alloc (.cells #[.int .i64 x] 3 (0,0))) (.slice (some ⟨w.heap.size,0,none⟩) 1 1) [x]:=
 ⟨rfl,.inr ⟨_,1,_,rfl,Nat.le_refl _,heap_alloc_new w _,Nat.le_refl _,by unfold maxLen;omega,rfl,rfl⟩⟩
end Go.Proofs.YtcooobnaocbdjaaGreatDoor

end

/-! YtcooobnaocbdjaaGreatDoorPLossM -/
section
set_option linter.unusedVariables false
namespace Go.Proofs.YtcooobnaocbdjaaGreatDoor
def Qce (ys ts:List Int):Int:=dotN (rowP subN ys ts) (rowP subN ys ts) / 2
def Qes (ys ts:List Int):Bool:=Qbi subB ys ts || dotB (rowP subN ys ts) (rowP subN ys ts)
theorem Qcp {x:Int} (h:0<=x):0<=sat x:=by
 unfold sat
 split
 ·omega
 ·split <;> omega
theorem Qff (x:Int):0<=mulN x x:=by
 unfold mulN
 refine Qcp ?_
 have h:0<=sat x*sat x:=by
  rcases Int.le_total 0 (sat x) with h | h
  ·exact Int.mul_nonneg h h
  ·exact Int.mul_nonneg_of_nonpos_of_nonpos h h
 omega
theorem Qj6 (xs:List Int) (k:Nat):0<=dotK xs xs k:=by
 induction k with
 | zero=>exact Int.le_refl _
 | succ k ih =>
  show 0<=dotF (dotK xs xs k) (xs.getD k 0) (xs.getD k 0)
  unfold dotF addN
  have h1:=Qcp ih
  have h2:=Qcp (Qff (xs.getD k 0))
  exact Qcp (by omega)
theorem Qgx (xs:List Int):0<=dotN xs xs:=by
 unfold dotN
 split
 ·exact Qj6 _ _
 ·exact Int.le_refl _
theorem Qgy (xs ys:List Int) : -2147483647<=dotN xs ys/\dotN xs ys<=2147483647:=by
 unfold dotN
 split
 ·cases xs.length with
  | zero=>exact ⟨by show (-2147483647:Int)<=0;omega,by show (0:Int)<=2147483647;omega⟩
  | succ k=>exact Zo _
 ·omega
theorem sub_self (x:Int):subN x x=0/\subB x x=false:=by
 have h:sat x-sat x=0:=by omega
 unfold subN subB
 rw [h]
 exact ⟨rfl,rfl⟩
end Go.Proofs.YtcooobnaocbdjaaGreatDoor

end
