import Derived.Test.YtcooobnaocbdjaaGreatDoorJoin8
import Derived.RangeFuncNested
import Derived.RangeFuncBound
import Derived.RangeFuncCalls
import Derived.RangeFuncLeaves
import Derived.RangeFuncBox
import Derived.RangeFuncWrites
import Derived.Shelf.Abstract
import Derived.Sort.QuietIn
import Derived.WalkKit
import Derived.OwnWalkIn
import Derived.TacticsInMore
import Derived.LoopNIn
import Derived.LoopIn
import Derived.Test.YtcooobnaocbdjaaGreatDoorJoin7
import Derived.Test.YtcooobnaocbdjaaGreatDoorJoin2
import Derived.Stop.Asserts
import Derived.Stop.IfaceNil
/-! YtcooobnaocbdjaaGreatDoorPMatP -/
section
set_option linter.unusedVariables false
namespace Go.Proofs.YtcooobnaocbdjaaGreatDoor
def Qdd {m:Nat} (ys:List (Fin m)) (k:Nat):Prop:=ys.map (fun x=>x.1)=List.range k
theorem Qdd.snoc {m:Nat} {ys:List (Fin m)} {k:Nat} (h:Qdd ys k) (hk:k<m):Qdd (ys ++ [⟨k,hk⟩]) (k+1):=by
 unfold Qdd at h |-
 rw [List.map_append,h,List.range_succ]
 rfl
theorem Qdd.length {m:Nat} {ys:List (Fin m)} {k:Nat} (h:Qdd ys k):ys.length=k:=by
 have:=congrArg List.length h
 simpa using this
theorem Ql7 (f:Nat->Int) (k:Nat):(List.range k).map f=mapK f k:=by
 induction k with
 | zero=>rfl
 | succ k ih=>rw [List.range_succ,List.map_append,ih];rfl
theorem Ql8 (g:Nat->Bool) (k:Nat):(List.range k).any g=anyK g k:=by
 induction k with
 | zero=>rfl
 | succ k ih=>rw [List.range_succ,List.any_append,ih];simp [anyK]
theorem Qdd.map {m:Nat} {ys:List (Fin m)} {k:Nat} (h:Qdd ys k) (f:Nat->Int):ys.map (fun x=>f x.1)=mapK f k:=by
 rw [<- Ql7,<- (show ys.map (fun x=>x.1)=List.range k from h),List.map_map]
 rfl
theorem Qdd.any {m:Nat} {ys:List (Fin m)} {k:Nat} (h:Qdd ys k) (g:Nat->Bool):ys.any (fun x=>g x.1)=anyK g k:=by
 rw [<- Ql8,<- (show ys.map (fun x=>x.1)=List.range k from h),List.any_map]
 rfl
open Go.RowKit in
theorem Qr5 {B:Nat} {w:World} {b o n:Nat} {xs:List Int} {m q:Nat} (h:IntsIn B w (some ⟨b,o,none⟩) n xs) (hn:n=m*q) {i:Nat} (hi:i<m):IntsIn B w (some ⟨b,o+i*q,none⟩) q (J4 q xs i):=by
 have hle:(i+1)*q<=m*q:=Nat.mul_le_mul_right q (by omega)
 have hr:=h.room
 rw [Nat.succ_mul] at hle
 refine ⟨Qeh (r:=m) (by rw [h.len,hn]) hi,by omega,fun k hk => ?_⟩
 obtain ⟨b',o',e,hb',hcell⟩:=h.cells (i*q+k) (by omega)
 cases e
 refine ⟨b,o+i*q,rfl,hb',?_⟩
 rw [Qik q xs i k hk,Nat.add_assoc]
 exact hcell
end Go.Proofs.YtcooobnaocbdjaaGreatDoor

end

/-! YtcooobnaocbdjaaGreatDoorPChunk -/
section
set_option maxRecDepth 100000
set_option maxHeartbeats 6400000
set_option linter.unusedVariables false
namespace Go.Proofs.YtcooobnaocbdjaaGreatDoor
open Go.RowKit Go.Shelf
attribute [local go_sem] Oper.semAt_some
def Ql9 (n₀ B1 B2:Nat) (W W':World):Prop:=Below n₀ W W'/\W'.heap[B1]? = W.heap[B1]? /\ W'.heap[B2]? = W.heap[B2]?
theorem Qq4 {n₀ B1 B2:Nat} {A B C:World} (h:Ql9 n₀ B1 B2 A B) (k:Ql9 n₀ B1 B2 B C):Ql9 n₀ B1 B2 A C:=⟨h.1.trans k.1,k.2.1.trans h.2.1,k.2.2.trans h.2.2⟩
theorem Qq5 {n₀ B1 B2:Nat} {w:World} (hn:n₀<=w.heap.size) (h1:B1<w.heap.size) (h2:B2<w.heap.size) (W:World) (l:Nat) (o o':Obj) (hl:w.heap.size<=l) (h:W.heap[l]? = some o) (hc:o.isCells=false) (hw:o.isWalk=false):Ql9 n₀ B1 B2 W (W.putObj l o'):=
 ⟨belowK_b hn W l o o' hl h hc hw,World.putObj_heap_other (by omega),World.putObj_heap_other (by omega)⟩
def Qk5 (b o q:Nat) (m:Nat) (x:Fin m):Array Value:=#[.slice (some ⟨b,o+x.1*q,none⟩) q q]
theorem Qnx (n:Nat) (hn:1<=n) (l B1 B2 b o m q N cap:Nat) (hN:N=m*q)
  (hm:m<=6) (hq0:1<=q) (hq:q<=6) (hcp:N<=cap) (hcap:cap<=9223372036854775807) (Kp:World->World->Prop) (hKp : ∀ X Y,Kp X Y->Y.heap[B1]? = X.heap[B1]? /\ Y.heap[B2]? = X.heap[B2]?) (J Jx:List (Fin m)->World->Prop)
  (hY : ∀ pre x W,J pre W->pre.length<m->YieldAt Fence.wide (n-1) Tryz.prog l (Qk5 b o q m x) W fun e W' =>
   (e = .returned (.bool true)/\J (pre ++ [x]) W'/\Kp W W')\/(e = .returned (.bool false)/\Jx (pre ++ [x]) W'))
  (W:World) (hJ:AbidesFrom W.heap.size J) (t1 t2:TypeId) (h1:Boxed W B1 t1 (.slice (some ⟨b,o,none⟩) N cap)) (h2:Boxed W B2 t2 (.int .i64 q)) (h0:J [] W) :
  CallsIn Fence.wide n Tryz.prog 351 #[.func (.yield l) #[] #[],.pointer (some ⟨B1,0,none⟩),.pointer (some ⟨B2,0,none⟩)] W fun e W'=>(∃ v,e = .returned v) /\
   ((∃ ys,Qdd ys m/\J ys W')\/(∃ pre,True/\Jx pre W')):=by
 have hN36:N<=36:=by rw [hN];exact le36 hm hq
 refine callsIn_of_wp Tryz.func351 rfl trivial ?_ rfl
 simp only [Tryz.ntmps351,List.size_toArray,List.length_cons,List.length_nil,Nat.reduceAdd,Nat.reduceSub,Array.replicate_succ,Array.replicate_zero,List.push_toArray,List.append_toArray,List.nil_append,List.cons_append]
 have HY:=Lib.hid hY
 have HJ:=Lib.hid hJ
 have H1:=Lib.hid h1
 have H2:=Lib.hid h2
 have HN:=Lib.hid hN
 clear hY hJ h1 h2 hN
 gi_wp2
 gi_loopw [4] (fun i wr => ∃ (k P:Nat) (pre:List (Fin m)),k<=m/\P=k*q/\i = .int .i64 P/\Qdd pre k/\J pre wr/\Boxed wr B1 t1 (.slice (some ⟨b,o,none⟩) N cap)/\Boxed wr B2 t2 (.int .i64 q))
  (fun i _=>N-(intOf i).toNat)
 case atStart=>exact ⟨0,0,[],Nat.zero_le _,by simp,rfl,rfl,h0,H1.out,H2.out⟩
 case round =>
  obtain ⟨k,P,pre,hk,hP,rfl,hcame,hJs,b1,b2⟩:=hrel
  have c1:=b1.cell
  have c2:=b2.cell
  by_cases hlt:k<m
  ·have hPN:P+q<=N:=by
    have:(k+1)*q<=m*q:=Nat.mul_le_mul_right q (by omega)
    rw [Nat.succ_mul] at this
    rw [HN.out,hP];exact this
   have e0:(if (N:Int)-(P:Int)<(q:Int) then (N:Int)-(P:Int) else (q:Int))=(q:Int):=if_neg (by omega)
   have HP:=Lib.hid hP
   clear hP
   gi_wp2
   gi_quiet (fail)
   have hJ1:J pre (wr.drewN nq):=HJ.out pre wr _ none hJs ⟨rfl,rfl,rfl,Nat.le_refl _,fun _ _ _=>rfl⟩ (fun r e=>by cases e)
   have b1':Boxed (wr.drewN nq) B1 t1 (.slice (some ⟨b,o,none⟩) N cap):=b1
   have b2':Boxed (wr.drewN nq) B2 t2 (.int .i64 q):=b2
   generalize wr.drewN nq=wd at hJ1 b1' b2' |-
   clear c1 c2 b1 b2 hJs
   have c1:=b1'.cell
   have c2:=b2'.cell
   obtain ⟨fn,tmps,assign,body,hy,hR⟩:=HY.out pre ⟨k,hlt⟩ wd hJ1 (by rw [hcame.length];exact hlt)
   simp only [Qk5] at hy
   rw [<- HP.out] at hy
   have HR:=Lib.hid hR
   have HC:=Lib.hid (hcame.snoc hlt)
   clear hR
   gi_wp2
   refine HR.out.mono ?_
   rintro e W3 (⟨rfl,hJ3,hk3⟩ | ⟨rfl,hJx3⟩)
   ·obtain ⟨k1,k2⟩:=hKp _ _ hk3
    have b1:Boxed W3 B1 t1 (.slice (some ⟨b,o,none⟩) N cap):=k1.trans b1'
    have b2:Boxed W3 B2 t2 (.int .i64 q):=k2.trans b2'
    have c1:=b1.cell
    have c2:=b2.cell
    gi_wp2
    go_roundw
    case rel=>exact ⟨k+1,P+q,pre ++ [⟨k,hlt⟩],by omega,by rw [HP.out,Nat.succ_mul],by go_num,HC.out,hJ3,b1,b2⟩
    case measure=>simp [intOf];omega
   ·gi_wp2
    refine bodyPost_ret (results_none rfl _ _ _) rfl ?_
    exact ⟨⟨_,rfl⟩,.inr ⟨_,trivial,hJx3⟩⟩
  ·have hPN:P=N:=by rw [HN.out,hP,show k=m by omega]
   subst hPN
   gi_wp2
   go_end0
   exact ⟨⟨_,rfl⟩,.inl ⟨pre,by rw [show k=m by omega] at hcame;exact hcame,hJs⟩⟩
theorem Qpp (n:Nat) (a:Option Addr) (len cap:Nat) (q:Int) (hq:1<=q) (w:World) :
  CallsIn Fence.wide n Tryz.prog 348 #[.slice a len cap,.int .i64 q] w fun e w' =>
   e = .returned (.func (.func 351) #[] #[.pointer (some ⟨w.heap.size,0,none⟩),.pointer (some ⟨w.heap.size+1,0,none⟩)]) /\
   w'=(w.alloc (.cells #[.slice a len cap] 28 (0,0))).alloc (.cells #[.int .i64 q] 3 (0,0)):=by
 have hd:decide (q<1)=false:=decide_eq_false (by omega)
 refine callsIn_of_wp Tryz.func348 rfl trivial ?_ rfl
 simp only [Tryz.ntmps348,List.size_toArray,List.length_cons,List.length_nil,Nat.reduceAdd,Nat.reduceSub,Array.replicate_succ,Array.replicate_zero,List.push_toArray,List.append_toArray,List.nil_append,List.cons_append]
 gi_wp2
 go_ret
 exact ⟨by simp,rfl⟩
theorem Qj9 (n:Nat) (hn:1<=n) (B1 B2 b o m q N cap:Nat) (hN:N=m*q) (hm:m<=6) (hq0:1<=q) (hq:q<=6) (hcp:N<=cap) (hcap:cap<=9223372036854775807)
  (Kp:World->World->Prop) (hKp : ∀ X Y,Kp X Y->Y.heap[B1]? = X.heap[B1]? /\ Y.heap[B2]? = X.heap[B2]?) (w:World) (t1 t2:TypeId) (h1:Boxed w B1 t1 (.slice (some ⟨b,o,none⟩) N cap)) (h2:Boxed w B2 t2 (.int .i64 q)) :
  SeqStopsK Fence.wide n Tryz.prog 351 #[.pointer (some ⟨B1,0,none⟩),.pointer (some ⟨B2,0,none⟩)] (Qk5 b o q m) Kp (fun ys=>Qdd ys m) (fun _=>True) m w:=fun l J Jx W hW hJ _ hY h0 =>
 Qnx n hn l B1 B2 b o m q N cap hN hm hq0 hq hcp hcap Kp hKp J Jx hY W hJ t1 t2 ((hW.block B1 h1.lt).trans h1) ((hW.block B2 h2.lt).trans h2) h0
theorem Qfi {F:Fence} {n:Nat} {P:Program} {fn:Func} {R:Ending->World->Prop} {a:Act} {w:World} {v:Value} (hd:a.defers=[]) (hr:(results fn a.tmps).run P w = .ok v w) (hR:R (.returned v) w):bodyPostM F n P fn R .ret a w:=by
 show LeavesInM F n P fn a.tmps R a.defers .returning w
 rw [hd]
 exact ⟨v,hr,hR⟩
theorem Qma {F:Fence} {n:Nat} {P:Program} {fn:Func} {R:Ending->World->Prop} {a:Act} {w:World} {v:Value} {D:Nat} (hd:a.defers=[{ target:= .collected D,args:=#[] }]) (hK:w.heap[D]? = some (.deferred (some [])))
  (hr:(results fn a.tmps).run P (w.putObj D (.deferred none)) = .ok v (w.putObj D (.deferred none))) (hR:R (.returned v) (w.putObj D (.deferred none))):bodyPostM F n P fn R .ret a w:=by
 show LeavesInM F n P fn a.tmps R a.defers .returning w
 rw [hd]
 exact ⟨by simp,.inl ⟨D,_,rfl,run_takeDeferred hK,v,hr,hR⟩⟩
theorem Qny {n₀ D:Nat} {W0 W:World} {o:Obj} (h:Below n₀ W0 W) (hD:n₀<=D) (hK:W.heap[D]? = some o) (o':Obj):Below n₀ W0 (W.putObj D o'):=
 h.grown (grownBy_putObj' W D o') (by have:=(Array.getElem?_eq_some_iff.1 hK).1;omega) (fun k e=>by cases e;exact hD)
end Go.Proofs.YtcooobnaocbdjaaGreatDoor

end

/-! YtcooobnaocbdjaaGreatDoorPMatI -/
section
set_option maxRecDepth 100000
set_option maxHeartbeats 6400000
set_option linter.unusedVariables false
namespace Go.Proofs.YtcooobnaocbdjaaGreatDoor
open Go.RowKit Go.Shelf
theorem Qhp (w:World) (r c:Int) (a:Option Addr) (n cp:Nat) (xs:List Int) (h:IntsIn w.heap.size w a n xs) (hcp:n<=cp) (hcap:cp<=9223372036854775807) :
  Calls Tryz.prog 347 #[.agg #[.int .i64 r,.int .i64 c,.slice a n cp]] w fun e w'=>e = .returned (.bool (Jv r c xs))/\Below w.heap.size w w':=by
 have hal:Below w.heap.size w (w.alloc (.cells #[.int .i64 r,.int .i64 c,.slice a n cp] 276 (0,0))):=(Below.refl _ _).alloc (Nat.le_refl _) _
 have hroom:=h.room
 have HX:=Lib.hid ((h.below hal (Nat.le_refl _)).le hal.size)
 have HAL:=Lib.hid hal
 have HR:=Lib.hid (fun w=>Jl r w)
 have HC:=Lib.hid (fun w=>Jl c w)
 have HA:=Lib.hid (Qb1 _ a n cp xs HX.out)
 have hd:Jv r c xs=(inB 1 6 r && inB 1 6 c && decide ((n:Int)=r*c) && xs.all okB):=by unfold Jv;rw [h.len]
 rw [hd]
 obtain ⟨q,hq⟩ : ∃ q,xs.all okB=q:=⟨_,rfl⟩
 rw [hq] at HA |-
 clear hd hq h hal
 cases hi:inB 1 6 r with
 | false =>
  rw [hi] at HR
  clear hi
  go_enter Tryz.func347,Tryz.ntmps347
  go_wp2_with fail
  refine (HR.out _).mono ?_
  rintro e w' ⟨rfl,rfl⟩
  go_wp2_with fail
  go_ret
  exact ⟨rfl,HAL.out⟩
 | true =>
  cases ho:inB 1 6 c with
  | false =>
   rw [hi] at HR
   rw [ho] at HC
   clear hi ho
   go_enter Tryz.func347,Tryz.ntmps347
   go_wp2_with fail
   refine (HR.out _).mono ?_
   rintro e w' ⟨rfl,rfl⟩
   go_wp2_with fail
   refine (HC.out _).mono ?_
   rintro e w' ⟨rfl,rfl⟩
   go_wp2_with fail
   go_ret
   exact ⟨rfl,HAL.out⟩
  | true =>
   have hp:=Qit hi ho
   obtain ⟨P,hP⟩ : ∃ P,r*c=P:=⟨_,rfl⟩
   have hw:wrap64 (r*c)=P:=by rw [IntWalk.wrap64_in (r*c) (by omega)];exact hP
   rw [hi] at HR
   rw [ho] at HC
   rw [hP] at hp |-
   clear hi ho hP
   by_cases hn:(n:Int)=P
   ·subst hn
    rw [decide_eq_true rfl]
    clear hp
    go_enter Tryz.func347,Tryz.ntmps347
    go_wp2_with fail
    refine (HR.out _).mono ?_
    rintro e w' ⟨rfl,rfl⟩
    go_wp2_with fail
    refine (HC.out _).mono ?_
    rintro e w' ⟨rfl,rfl⟩
    go_wp2_with fail
    refine HA.out.mono ?_
    rintro e w' ⟨rfl,rfl⟩
    go_wp2_with fail
    go_ret
    exact ⟨by simp,HAL.out⟩
   ·have hne:((n:Int) == P)=false:=by simpa using hn
    rw [decide_eq_false hn]
    clear hn hp
    go_enter Tryz.func347,Tryz.ntmps347
    go_wp2_with fail
    refine (HR.out _).mono ?_
    rintro e w' ⟨rfl,rfl⟩
    go_wp2_with fail
    refine (HC.out _).mono ?_
    rintro e w' ⟨rfl,rfl⟩
    go_wp2_with fail
    go_ret
    exact ⟨by simp,HAL.out⟩
end Go.Proofs.YtcooobnaocbdjaaGreatDoor

end

/-! YtcooobnaocbdjaaGreatDoorPOpA -/
section
set_option linter.unusedVariables false
namespace Go.Proofs.YtcooobnaocbdjaaGreatDoor
open Go.RowKit
section
variable {P:Program} {t t' xT:TypeId} {v z:Value}
theorem Qb4 {fs} (hu:P.underlying t=some (.struct fs)) (w:World):(Instr.typeAssert (.iface t v) xT t true).run P w = .ok (.tuple #[v,.bool true]) w:=by
 simp [Instr.typeAssert,run_underlying hu,go_sem,Result.andThen]
theorem Q5 {fs} (hu:P.underlying t=some (.struct fs)) (hz:(P.info? t).map (·.zero)=some (some z)) (hne:t'≠t) (w:World):(Instr.typeAssert (.iface t' v) xT t true).run P w = .ok (.tuple #[z,.bool false]) w:=by
 obtain ⟨j,hj,hz'⟩:=Option.map_eq_some_iff.1 hz
 simp [Instr.typeAssert,run_underlying hu,go_sem,Result.andThen,zeroValue,typeInfo,hj,hz',hne]
theorem Qcs {fs} (hu:P.underlying t=some (.struct fs)) (hz:(P.info? t).map (·.zero)=some (some z)) (w:World):(Instr.typeAssert .nilIface xT t true).run P w = .ok (.tuple #[z,.bool false]) w:=by
 obtain ⟨j,hj,hz'⟩:=Option.map_eq_some_iff.1 hz
 simp [Instr.typeAssert,run_underlying hu,go_sem,Result.andThen,zeroValue,typeInfo,hj,hz']
end
theorem Qci:(Tryz.prog.info? 302).map (·.zero)=some (some (.agg #[.int .i64 0,.int .i64 0,.slice none 0 0])):=by kernel_rfl
theorem Qfj:(Tryz.prog.info? 309).map (·.zero)=some (some (.agg #[.int .i64 0,.int .i64 0,.slice none 0 0])):=by kernel_rfl
theorem Qdt:(Tryz.prog.info? 304).map (·.zero)=some (some (.agg #[.slice none 0 0])):=by kernel_rfl
theorem Qcj:(Tryz.prog.info? 307).map (·.zero)=some (some (.agg #[.slice none 0 0])):=by kernel_rfl
section
variable (v:Value) (w:World)
theorem Qhq:(Instr.typeAssert (.iface 302 v) 262 302 true).run Tryz.prog w = .ok (.tuple #[v,.bool true]) w:=Qb4 Tryz.underlying302 w
theorem Qiy:(Instr.typeAssert (.iface 304 v) 262 302 true).run Tryz.prog w = .ok (.tuple #[.agg #[.int .i64 0,.int .i64 0,.slice none 0 0],.bool false]) w:=Q5 Tryz.underlying302 Qci (by decide) w
theorem Qiz:(Instr.typeAssert (.iface 306 v) 262 302 true).run Tryz.prog w = .ok (.tuple #[.agg #[.int .i64 0,.int .i64 0,.slice none 0 0],.bool false]) w:=Q5 Tryz.underlying302 Qci (by decide) w
theorem Qhr:(Instr.typeAssert (.iface 307 v) 262 302 true).run Tryz.prog w = .ok (.tuple #[.agg #[.int .i64 0,.int .i64 0,.slice none 0 0],.bool false]) w:=Q5 Tryz.underlying302 Qci (by decide) w
theorem Qka:(Instr.typeAssert (.iface 309 v) 262 302 true).run Tryz.prog w = .ok (.tuple #[.agg #[.int .i64 0,.int .i64 0,.slice none 0 0],.bool false]) w:=Q5 Tryz.underlying302 Qci (by decide) w
theorem Qkb:(Instr.typeAssert .nilIface 262 302 true).run Tryz.prog w = .ok (.tuple #[.agg #[.int .i64 0,.int .i64 0,.slice none 0 0],.bool false]) w:=Qcs Tryz.underlying302 Qci w
theorem Qkc:(Instr.typeAssert (.iface 302 v) 262 309 true).run Tryz.prog w = .ok (.tuple #[.agg #[.int .i64 0,.int .i64 0,.slice none 0 0],.bool false]) w:=Q5 Tryz.underlying309 Qfj (by decide) w
theorem Qmb:(Instr.typeAssert (.iface 304 v) 262 309 true).run Tryz.prog w = .ok (.tuple #[.agg #[.int .i64 0,.int .i64 0,.slice none 0 0],.bool false]) w:=Q5 Tryz.underlying309 Qfj (by decide) w
theorem Qmc:(Instr.typeAssert (.iface 306 v) 262 309 true).run Tryz.prog w = .ok (.tuple #[.agg #[.int .i64 0,.int .i64 0,.slice none 0 0],.bool false]) w:=Q5 Tryz.underlying309 Qfj (by decide) w
theorem Qkd:(Instr.typeAssert (.iface 307 v) 262 309 true).run Tryz.prog w = .ok (.tuple #[.agg #[.int .i64 0,.int .i64 0,.slice none 0 0],.bool false]) w:=Q5 Tryz.underlying309 Qfj (by decide) w
theorem Qnz:(Instr.typeAssert (.iface 309 v) 262 309 true).run Tryz.prog w = .ok (.tuple #[v,.bool true]) w:=Qb4 Tryz.underlying309 w
theorem Qn0:(Instr.typeAssert .nilIface 262 309 true).run Tryz.prog w = .ok (.tuple #[.agg #[.int .i64 0,.int .i64 0,.slice none 0 0],.bool false]) w:=Qcs Tryz.underlying309 Qfj w
theorem Qi0:(Instr.typeAssert (.iface 302 v) 262 304 true).run Tryz.prog w = .ok (.tuple #[.agg #[.slice none 0 0],.bool false]) w:=Q5 Tryz.underlying304 Qdt (by decide) w
theorem Qke:(Instr.typeAssert (.iface 304 v) 262 304 true).run Tryz.prog w = .ok (.tuple #[v,.bool true]) w:=Qb4 Tryz.underlying304 w
theorem Qkf:(Instr.typeAssert (.iface 306 v) 262 304 true).run Tryz.prog w = .ok (.tuple #[.agg #[.slice none 0 0],.bool false]) w:=Q5 Tryz.underlying304 Qdt (by decide) w
theorem Qi1:(Instr.typeAssert (.iface 307 v) 262 304 true).run Tryz.prog w = .ok (.tuple #[.agg #[.slice none 0 0],.bool false]) w:=Q5 Tryz.underlying304 Qdt (by decide) w
theorem Qmd:(Instr.typeAssert (.iface 309 v) 262 304 true).run Tryz.prog w = .ok (.tuple #[.agg #[.slice none 0 0],.bool false]) w:=Q5 Tryz.underlying304 Qdt (by decide) w
theorem Qme:(Instr.typeAssert .nilIface 262 304 true).run Tryz.prog w = .ok (.tuple #[.agg #[.slice none 0 0],.bool false]) w:=Qcs Tryz.underlying304 Qdt w
theorem Qhs:(Instr.typeAssert (.iface 302 v) 262 307 true).run Tryz.prog w = .ok (.tuple #[.agg #[.slice none 0 0],.bool false]) w:=Q5 Tryz.underlying307 Qcj (by decide) w
theorem Qi2:(Instr.typeAssert (.iface 304 v) 262 307 true).run Tryz.prog w = .ok (.tuple #[.agg #[.slice none 0 0],.bool false]) w:=Q5 Tryz.underlying307 Qcj (by decide) w
theorem Qi3:(Instr.typeAssert (.iface 306 v) 262 307 true).run Tryz.prog w = .ok (.tuple #[.agg #[.slice none 0 0],.bool false]) w:=Q5 Tryz.underlying307 Qcj (by decide) w
theorem Qht:(Instr.typeAssert (.iface 307 v) 262 307 true).run Tryz.prog w = .ok (.tuple #[v,.bool true]) w:=Qb4 Tryz.underlying307 w
theorem Qkg:(Instr.typeAssert (.iface 309 v) 262 307 true).run Tryz.prog w = .ok (.tuple #[.agg #[.slice none 0 0],.bool false]) w:=Q5 Tryz.underlying307 Qcj (by decide) w
theorem Qkh:(Instr.typeAssert .nilIface 262 307 true).run Tryz.prog w = .ok (.tuple #[.agg #[.slice none 0 0],.bool false]) w:=Qcs Tryz.underlying307 Qcj w
theorem Qn1:Tryz.prog.isIface 262=true:=by kernel_rfl
theorem Qn2:(binOp .eql 262 .nilIface .nilIface).run Tryz.prog w = .ok (.bool true) w:=run_eql_nil_nil_at w _ Qn1
theorem Qmf (t:TypeId):(binOp .eql 262 (.iface t v) .nilIface).run Tryz.prog w = .ok (.bool false) w:=run_eql_iface_nil w _ Qn1 t v
end
end Go.Proofs.YtcooobnaocbdjaaGreatDoor

end
