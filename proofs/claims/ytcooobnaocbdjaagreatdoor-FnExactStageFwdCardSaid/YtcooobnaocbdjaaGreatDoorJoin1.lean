import Derived.Test.YtcooobnaocbdjaaGreatDoorProg
import Derived.WalkKit
import Derived.LaidEql
import Derived.Stop.Asserts
import Derived.RowKitTokens
import Derived.Below
import Derived.Lib.Hide
import Derived.WalkSpells
import Derived.WalkLawsBesides
import Derived.Test.YtcooobnaocbdjaaGreatDoorRows
import Derived.LaidLaws
import Derived.LaidHandle
import Derived.LaidSub
import Derived.Laws.CopyOwn
import Derived.Laws.IdiomStrings
import Derived.Laws.AppendOwn
import Derived.Laws.OwnMore
import Derived.Laws.MakeOwn
import Derived.Deep.Onto
import Derived.Deep.QuietTactic
import Derived.BigQuiet
/-! YtcooobnaocbdjaaGreatDoorPAs -/
section
set_option maxHeartbeats 6400000
set_option linter.unusedSimpArgs false
set_option linter.unusedVariables false
namespace Go.Proofs.YtcooobnaocbdjaaGreatDoor
open Go.RowKit Go.Extern.Stop Go.Stop Go.Extern
def Z0 (w:World):Prop:=w.cell? ⟨0,0,none⟩=some (.iface 357 (.agg #[.pointer (some ⟨1,313,none⟩)]))
theorem Z0.lt {w:World} (h:Z0 w):0<w.heap.size:=World.block_lt_of_cell? w _ h
theorem Z0.below {w w':World} {B:Nat} (h:Z0 w) (hB:0<B) (hb:Below B w w'):Z0 w':=
 (hb.cell (p:=⟨0,0,none⟩) hB).trans h
theorem Qjx (t:Addr) (w:World):(ReflectliteValue.unpack (.iface 318 (.pointer (some t)))).run Tryz.prog w
  = .ok (.agg #[.pointer (some ⟨1,318,none⟩),.pointer (some ⟨w.heap.size,0,none⟩),.int .u64 150]) (w.alloc (.cells #[.pointer (some t)] 318)):=by kernel_rfl
theorem Qot (a:Addr) (w:World):(ReflectliteValue.methodAny (ReflectliteValue.valueError "reflectlite.Value.Type" 0) (fun t _ _ _=>ReflectliteType.toType t) #[.agg #[.pointer (some ⟨1,318,none⟩),.pointer (some a),.int .u64 150]]).run Tryz.prog w
  = .ok (.iface 357 (.agg #[.pointer (some ⟨1,318,none⟩)])) w:=by kernel_rfl
theorem Qou (h:Value) (w:World):(Go.method 511 357 (.agg #[h]) "Kind").run Tryz.prog w = .ok (339,h) w:=by kernel_rfl
theorem Qov (w:World):((ReflectliteType.abiMethod fun t=>(fun a:Nat=>Value.int IntKind.u8 (a:Int)) <$> Rtype.kind t) #[.pointer (some ⟨1,318,none⟩)]).run Tryz.prog w = .ok (.int .u8 22) w:=by kernel_rfl
theorem Qow (w:World):((ReflectliteType.abiMethod fun t=>(fun a:Nat=>Value.int IntKind.u8 (a:Int)) <$> Rtype.kind t) #[.pointer (some ⟨1,316,none⟩)]).run Tryz.prog w = .ok (.int .u8 25) w:=by kernel_rfl
theorem Qp5 (z:Sem Value) (f:TypeId->Addr->Nat->Nat->Sem Value) (v:Value) :
  ReflectliteValue.method z f #[v]=(do match<-ReflectliteValue.parts v with | none=>z | some (t,a,fl)=>f t a fl (fl % 32)):=rfl
theorem Qif (a:Addr) (w:World):(ReflectliteValue.parts (.agg #[.pointer (some ⟨1,318,none⟩),.pointer (some a),.int .u64 150])).run Tryz.prog w = .ok (some (318,a,150)) w:=by kernel_rfl
theorem Qm2 (a p:Addr) (W:World) (ha:W.cell? a=some (.pointer (some p))) :
  (ReflectliteValue.method (ReflectliteValue.valueError "reflectlite.Value.IsNil" 0) ReflectliteValue.isNil #[.agg #[.pointer (some ⟨1,318,none⟩),.pointer (some a),.int .u64 150]]).run Tryz.prog W = .ok (.bool false) W:=by
 rw [Qp5]
 simp only [Sem.run_bind,Qif,Result.andThen]
 simp [ReflectliteValue.isNil,loadVar,isAgg,underlying,Tryz.underlying318,ha,Result.andThen]
theorem Qox (h:Value) (w:World):(Go.method 511 357 (.agg #[h]) "Elem").run Tryz.prog w = .ok (374,.agg #[h]) w:=by kernel_rfl
theorem Qoy (h:Value) (w:World):(Go.method 511 357 (.agg #[h]) "Implements").run Tryz.prog w = .ok (375,.agg #[h]) w:=by kernel_rfl
theorem Qlm (h:Value) (w:World):(Go.method 511 357 (.agg #[h]) "AssignableTo").run Tryz.prog w = .ok (372,.agg #[h]) w:=by kernel_rfl
theorem Qoz (w:World):(ReflectliteType.method ReflectliteType.elem #[.agg #[.pointer (some ⟨1,318,none⟩)]]).run Tryz.prog w = .ok (.iface 357 (.agg #[.pointer (some ⟨1,316,none⟩)])) w:=by kernel_rfl
theorem Qg8 (w:World):(ReflectliteType.relation "Implements" ReflectliteType.implements_ #[.agg #[.pointer (some ⟨1,316,none⟩)],.iface 357 (.agg #[.pointer (some ⟨1,313,none⟩)])]).run Tryz.prog w = .ok (.bool true) w:=by kernel_rfl
theorem Qm3 (v:Value) (w:World):(ReflectliteType.typeOf #[.iface 316 v]).run Tryz.prog w = .ok (.iface 357 (.agg #[.pointer (some ⟨1,316,none⟩)])) w:=by kernel_rfl
theorem Qg9 (w:World):(ReflectliteType.relation "AssignableTo" ReflectliteType.assignableTo #[.agg #[.pointer (some ⟨1,316,none⟩)],.iface 357 (.agg #[.pointer (some ⟨1,316,none⟩)])]).run Tryz.prog w = .ok (.bool true) w:=by kernel_rfl
theorem Qjy (n:Int) (w:World):(ReflectliteValue.unpack (.iface 316 (.agg #[.int .i64 n]))).run Tryz.prog w
  = .ok (.agg #[.pointer (some ⟨1,316,none⟩),.pointer (some ⟨w.heap.size,0,none⟩),.int .u64 153]) (w.alloc (.cells #[.int .i64 n] 316)):=by kernel_rfl
theorem Qm4 (w:World):(Rtype.elem? 318).run Tryz.prog w = .ok (some 316) w:=by kernel_rfl
theorem Qre (p:Addr) (w:World):(ReflectliteValue.mk 316 p ReflectliteValue.flagAddr).run Tryz.prog w = .ok (.agg #[.pointer (some ⟨1,316,none⟩),.pointer (some p),.int .u64 409]) w:=by kernel_rfl
theorem Qo0 (a p:Addr) (W:World) (ha:W.cell? a=some (.pointer (some p))) :
  (ReflectliteValue.method (ReflectliteValue.valueError "reflectlite.Value.Elem" 0) ReflectliteValue.elem #[.agg #[.pointer (some ⟨1,318,none⟩),.pointer (some a),.int .u64 150]]).run Tryz.prog W
   = .ok (.agg #[.pointer (some ⟨1,316,none⟩),.pointer (some p),.int .u64 409]) W:=by
 rw [Qp5]
 simp only [Sem.run_bind,Qif,Result.andThen]
 simp [ReflectliteValue.elem,loadVar,isAgg,underlying,Tryz.underlying318,ha,Result.andThen,Qm4,Qre]
theorem Qrf (v x:Value):ReflectliteValue.set #[v,x]=(do
  let (some (dst,a,fl),some (src,b,_)):=(<- ReflectliteValue.parts v,<- ReflectliteValue.parts x)
   | unsupported (.noEntry "extern/(internal/reflectlite.Value).Set.zeroValue")
  if fl / ReflectliteValue.flagAddr % 2 == 0 then unsupported (.noEntry "extern/(internal/reflectlite.Value).Set.unaddressable")
  let val<-loadVar src b
  if<-Rtype.directlyAssignable dst src then storeVar dst a val
  else if<-Rtype.implements dst src then
   if (<- Rtype.kind src) == 20 then
    match val with
    | .nilIface=>unsupported (.noEntry "extern/reflectlite: a nil value of one interface type handed on as a value of another")
    | _=>storeVar dst a val
   else storeVar dst a (.iface src val)
  else panicString ("reflectlite.Set: value of type " ++ (<- Rtype.spelt src) ++ " is not assignable to type " ++ (<- Rtype.spelt dst))
  pure (.tuple #[])):=rfl
theorem Qln (a:Addr) (w:World):(ReflectliteValue.parts (.agg #[.pointer (some ⟨1,316,none⟩),.pointer (some a),.int .u64 409])).run Tryz.prog w = .ok (some (316,a,409)) w:=by kernel_rfl
theorem Qm5 (a:Addr) (w:World):(ReflectliteValue.parts (.agg #[.pointer (some ⟨1,316,none⟩),.pointer (some a),.int .u64 153])).run Tryz.prog w = .ok (some (316,a,153)) w:=by kernel_rfl
theorem Qm6 (w:World):(Rtype.directlyAssignable 316 316).run Tryz.prog w = .ok true w:=by kernel_rfl
theorem Qm7 (w:World):(sizeOf 316).run Tryz.prog w = .ok 1 w:=by kernel_rfl
theorem Qrg (w:World):(isAgg 316).run Tryz.prog w = .ok true w:=by kernel_rfl
theorem Qo1 (b:Addr) (n:Int) (W:World) (hb:W.cell? b=some (.int .i64 n)):(loadVar 316 b).run Tryz.prog W = .ok (.agg #[.int .i64 n]) W:=by
 have h0:W.cell? (b.add 0)=some (.int .i64 n):=by simpa [Addr.add] using hb
 simp [loadVar,Qrg,Qm7,Result.andThen,loadCells,loadCellsFrom,h0]
theorem Qrh (ta b:Addr) (n:Int) (old:Value) (W:World) (hb:W.cell? b=some (.int .i64 n)) (ht:W.cell? ta=some old) (hf:W.frozen? ta=false) :
  (ReflectliteValue.set #[.agg #[.pointer (some ⟨1,316,none⟩),.pointer (some ta),.int .u64 409],.agg #[.pointer (some ⟨1,316,none⟩),.pointer (some b),.int .u64 153]]).run Tryz.prog W
   = .ok (.tuple #[]) (W.setCell ta (.int .i64 n)):=by
 rw [Qrf]
 simp only [Sem.run_bind,Qln,Qm5,Result.andThen]
 simp [ReflectliteValue.flagAddr,Qo1 b n W hb,Result.andThen,Qm6,storeVar,Value.cells,Qm7,storeCells,Addr.add]
 rw [run_store Tryz.prog W ta _ _ (by rfl)]
 simp [ht,hf]
theorem Qri (n:Int) (t:Addr) (old:Value) (w:World) (hg:Z0 w) (ht0:w.cell? t=some old) (hf0:w.frozen? t=false) :
  Calls Tryz.prog 283 #[.iface 316 (.agg #[.int .i64 n]),.iface 318 (.pointer (some t))] w fun ev w'=>ev = .returned (.bool true)/\w'=((((w.alloc (.cells #[.pointer (some t)] 318)).alloc (.cells #[.pointer (some ⟨1,318,none⟩),.pointer (some ⟨w.heap.size,0,none⟩),.int .u64 150] 335)).alloc (.cells #[.pointer (some ⟨1,318,none⟩),.pointer (some ⟨w.heap.size,0,none⟩),.int .u64 150] 335)).alloc (.cells #[.int .i64 n] 316)).setCell t (.int .i64 n):=by
 have h6:= @run_callFunc_extern Tryz.prog 300 _ (fun args=>ReflectliteValue.unpack (args.getD 0 (.tuple #[]))) Tryz.func300 (by kernel_rfl) (by kernel_rfl) (by kernel_rfl) (by kernel_rfl)
 have h7:= @run_callFunc_extern Tryz.prog 301 _ (ReflectliteValue.methodAny (ReflectliteValue.valueError "reflectlite.Value.Type" 0) (fun t _ _ _=>ReflectliteType.toType t)) Tryz.func301 (by kernel_rfl) (by kernel_rfl) (by kernel_rfl) (by kernel_rfl)
 have h8:= @run_callFunc_extern Tryz.prog 302 _ (ReflectliteValue.method (ReflectliteValue.valueError "reflectlite.Value.IsNil" 0) ReflectliteValue.isNil) Tryz.func302 (by kernel_rfl) (by kernel_rfl) (by kernel_rfl) (by kernel_rfl)
 have h27:= @run_callFunc_extern Tryz.prog 339 _ (ReflectliteType.abiMethod fun t=>do pure (.int .u8 (<- Rtype.kind t))) Tryz.func339 (by kernel_rfl) (by kernel_rfl) (by kernel_rfl) (by kernel_rfl)
 have h37:= @run_callFunc_extern Tryz.prog 374 _ (ReflectliteType.method ReflectliteType.elem) Tryz.func374 (by kernel_rfl) (by kernel_rfl) (by kernel_rfl) (by kernel_rfl)
 have h38:= @run_callFunc_extern Tryz.prog 375 _ (ReflectliteType.relation "Implements" ReflectliteType.implements_) Tryz.func375 (by kernel_rfl) (by kernel_rfl) (by kernel_rfl) (by kernel_rfl)
 have h10:= @run_callFunc_extern Tryz.prog 315 _ ReflectliteType.typeOf Tryz.func315 (by kernel_rfl) (by kernel_rfl) (by kernel_rfl) (by kernel_rfl)
 have h35:= @run_callFunc_extern Tryz.prog 372 _ (ReflectliteType.relation "AssignableTo" ReflectliteType.assignableTo) Tryz.func372 (by kernel_rfl) (by kernel_rfl) (by kernel_rfl) (by kernel_rfl)
 have h11:= @run_callFunc_extern Tryz.prog 316 _ (ReflectliteValue.method (ReflectliteValue.valueError "reflectlite.Value.Elem" 0) ReflectliteValue.elem) Tryz.func316 (by kernel_rfl) (by kernel_rfl) (by kernel_rfl) (by kernel_rfl)
 have h12:= @run_callFunc_extern Tryz.prog 317 _ ReflectliteValue.set Tryz.func317 (by kernel_rfl) (by kernel_rfl) (by kernel_rfl) (by kernel_rfl)
 have tO:=Qm3
 have mA:=Qlm
 have a25:=Qg9
 have v25:=Qjy
 have f6:=Qjx
 have f7:=Qot
 have mK:=Qou
 have mE:=Qox
 have mI:=Qoy
 have k27:=Qov
 have k25:=Qow
 have e27:=Qoz
 have i25:=Qg8
 have n8:=Qm2 ⟨w.heap.size,0,none⟩ t ((w.alloc (.cells #[.pointer (some t)] 318)).alloc (.cells #[.pointer (some ⟨1,318,none⟩),.pointer (some ⟨w.heap.size,0,none⟩),.int .u64 150] 335)) (by simp)
 have hlt:=hg.lt
 have hg2:((w.alloc (.cells #[.pointer (some t)] 318)).alloc (.cells #[.pointer (some ⟨1,318,none⟩),.pointer (some ⟨w.heap.size,0,none⟩),.int .u64 150] 335)).cell? ⟨0,0,none⟩=some (.iface 357 (.agg #[.pointer (some ⟨1,313,none⟩)])):=by
  rw [World.cell?_alloc_lt _ _ ⟨0,0,none⟩ (by simp <;> omega),World.cell?_alloc_lt _ _ ⟨0,0,none⟩ hlt];exact hg
 have htl:t.block<w.heap.size:=by
  rcases Nat.lt_or_ge t.block w.heap.size with h | h
  ·exact h
  ·simp [World.cell?,Array.getElem?_eq_none h] at ht0
 have el:=Qo0 ⟨w.heap.size,0,none⟩ t (((w.alloc (.cells #[.pointer (some t)] 318)).alloc (.cells #[.pointer (some ⟨1,318,none⟩),.pointer (some ⟨w.heap.size,0,none⟩),.int .u64 150] 335)).alloc (.cells #[.pointer (some ⟨1,318,none⟩),.pointer (some ⟨w.heap.size,0,none⟩),.int .u64 150] 335)) (by rw [World.cell?_alloc_lt _ _ ⟨w.heap.size,0,none⟩ (by simp;omega)];simp)
 have st:=Qrh t ⟨w.heap.size+1+1+1,0,none⟩ n old ((((w.alloc (.cells #[.pointer (some t)] 318)).alloc (.cells #[.pointer (some ⟨1,318,none⟩),.pointer (some ⟨w.heap.size,0,none⟩),.int .u64 150] 335)).alloc (.cells #[.pointer (some ⟨1,318,none⟩),.pointer (some ⟨w.heap.size,0,none⟩),.int .u64 150] 335)).alloc (.cells #[.int .i64 n] 316))
  (by rw [World.cell?_alloc_at _ _ _ _ (by simp)];rfl)
  (by rw [World.cell?_alloc_lt _ _ t (by simp;omega),World.cell?_alloc_lt _ _ t (by simp;omega),World.cell?_alloc_lt _ _ t (by simp;omega),World.cell?_alloc_lt _ _ t htl];exact ht0)
  (by rw [World.frozen?_alloc_old _ _ t (by simp;omega),World.frozen?_alloc_old _ _ t (by simp;omega),World.frozen?_alloc_old _ _ t (by simp;omega),World.frozen?_alloc_old _ _ t (Nat.ne_of_lt htl)];exact hf0)
 clear hg ht0 hf0
 go_enter Tryz.func283,Tryz.ntmps283
 go_wp2
 refine wp_loop_rounds 1 ?_
 rw [rounds_succ]
 go_wp2
 go_ret
 exact ⟨rfl,rfl⟩
end Go.Proofs.YtcooobnaocbdjaaGreatDoor

end

/-! YtcooobnaocbdjaaGreatDoorPLaidE -/
section
namespace Go.Proofs.YtcooobnaocbdjaaGreatDoor
open Go.RowKit
theorem Qsh:Tryz.prog.globalNamed "errors.errorType" = some 0:=by kernel_rfl
theorem Qrj:(Tryz.prog.cutTypes.find? (·.1 == "internal/reflectlite.rtype")).map (·.2)=some 357:=by kernel_rfl
theorem Qm8:((List.range 411).filter fun t=>Tryz.prog.rowNamed t [101,114,114,111,114])=[313]:=by kernel_rfl
theorem Qm9:Tryz.prog.types.size=411:=by kernel_rfl
theorem Qo2 {l:List (String × DataW Unit)} {W:World} (h:laidMetH Tryz.prog l W) (hm:("errors.errorType",Rows.laid_errors_errorType)∈l):Z0 W:=by
 have h2:=(laidMetH_iff.1 h).2
 obtain ⟨name,u,ty,e1,e2,e3,e4,e5⟩:=h2 ("errors.errorType",Rows.laid_errors_errorType) (List.mem_filter.2 ⟨hm,rfl⟩)
 have en:name=[101,114,114,111,114]:=(Option.some.inj e1).symm
 subst en
 obtain rfl:=Option.some.inj (Qrj.symm.trans e2)
 have hmm:ty∈(List.range 411).filter fun t=>Tryz.prog.rowNamed t [101,114,114,111,114]:=List.mem_filter.2 ⟨List.mem_range.2 (by rw [<- Qm9];exact e3),e4⟩
 rw [Qm8] at hmm
 obtain rfl:=List.mem_singleton.1 hmm
 have hh:typeHandle Tryz.prog 313 = .pointer (some ⟨1,313,none⟩):=by kernel_rfl
 rw [hh] at e5
 have:=World.var?_cell Qsh e5 0
 unfold Z0
 simpa using this
end Go.Proofs.YtcooobnaocbdjaaGreatDoor

end

/-! YtcooobnaocbdjaaGreatDoorPBytes -/
section
namespace Go.Proofs.YtcooobnaocbdjaaGreatDoor
open Go.RowKit
def Qrk (l:List UInt8):List Value:=l.map (fun b=>Value.int .u8 (b.toNat:Int))
end Go.Proofs.YtcooobnaocbdjaaGreatDoor

end

/-! YtcooobnaocbdjaaGreatDoorPRow -/
section
set_option maxRecDepth 100000
set_option linter.unusedVariables false
namespace Go.Proofs.YtcooobnaocbdjaaGreatDoor
open Go.RowKit
theorem Tryz.infoI64:(Tryz.prog.info? 3).map (fun i=>(i.zero,i.size,i.bytes))=some (some (.int .i64 0),1,8):=by kernel_rfl
def Qp (l:List Int):List Value:=l.map (Value.int .i64)
theorem Z5 (l:List Int):(Qp l).length=l.length:=by simp [Qp]
theorem Qau (a b:List Int):Qp (a ++ b)=Qp a ++ Qp b:=by simp [Qp]
theorem Qbp (l:List Int) (j:Nat) (h:j<l.length):(Qp l)[j]? = some (.int .i64 (l.getD j 0)):=by simp [Qp,List.getD,h]
theorem Qlo (l:List Int) (j:Nat) (x:Int):(Qp l).set j (.int .i64 x)=Qp (l.set j x):=by simp [Qp]
theorem Qo3 (xs:List Int) (k m:Nat) (hk:k<xs.length):(xs.take k ++ List.replicate (m+1) 0).set k (xs.getD k 0)=xs.take (k+1) ++ List.replicate m 0:=by
 have h1:(xs.take k).length=k:=by simp;omega
 rw [List.set_append_right _ _ (by omega),h1,Nat.sub_self,List.replicate_succ,List.set_cons_zero,List.take_add_one,List.getElem?_eq_getElem hk,List.append_assoc]
 simp [List.getD,hk]
structure IntsIn (B:Nat) (w:World) (a:Option Addr) (n:Nat) (xs:List Int):Prop where
 len:xs.length=n
 room:n<=1048576
 cells : ∀ j,j<n -> ∃ b o,a=some ⟨b,o,none⟩/\b<B/\w.cell? ⟨b,o+j,none⟩=some (.int .i64 (xs.getD j 0))
theorem IntsIn.below {B B':Nat} {w w':World} {a:Option Addr} {n:Nat} {xs:List Int} (h:IntsIn B w a n xs) (hb:Below B' w w') (hB:B<=B'):IntsIn B w' a n xs:=
 ⟨h.len,h.room,fun j hj=>by
  obtain ⟨b,o,e1,e2,e3⟩:=h.cells j hj
  exact ⟨b,o,e1,e2,(hb.cell (p:=⟨b,o+j,none⟩) (Nat.lt_of_lt_of_le e2 hB)).trans e3⟩⟩
theorem IntsIn.le {B B':Nat} {w:World} {a:Option Addr} {n:Nat} {xs:List Int} (h:IntsIn B w a n xs) (hB:B<=B'):IntsIn B' w a n xs:=
 ⟨h.len,h.room,fun j hj=>by
  obtain ⟨b,o,e1,e2,e3⟩:=h.cells j hj
  exact ⟨b,o,e1,Nat.lt_of_lt_of_le e2 hB,e3⟩⟩
def Row (base:Nat) (w:World) (v:Value) (xs:List Int):Prop:=w.ownsRow base 3 1 v xs.length (Qp xs)
theorem Row.nil (base:Nat) (w:World):Row base w (.slice none 0 0) []:=World.ownsRow_nil _ _ _ _
theorem Row.form {base:Nat} {w:World} {v:Value} {xs:List Int} (h:Row base w v xs) : ∃ a cap,v = .slice a xs.length cap/\(xs.length<=1048576->IntsIn w.heap.size w a xs.length xs):=by
 have hcs:=fun g (h':v.ownBlock=some g)=>World.ownsRow.cells h (g:=g) h'
 have hlt:=World.ownsRow.lt h
 rcases h.2 with ⟨rfl,hn⟩ | ⟨g,cap,cur,rfl,hb,hg,_⟩
 ·have:xs=[]:=List.eq_nil_of_length_eq_zero hn
  subst this
  exact ⟨none,0,rfl,fun _=>⟨rfl,by decide,fun j hj=>absurd hj (Nat.not_lt_zero _)⟩⟩
 ·refine ⟨_,cap,rfl,fun hr=>⟨rfl,hr,fun j hj=>⟨g,0,rfl,(hlt g rfl).2,?_⟩⟩⟩
  have:=hcs g rfl j _ (Qbp xs j hj)
  rw [Addr.add_lit] at this
  exact this
theorem Row.lt {base:Nat} {w:World} {v:Value} {xs:List Int} (h:Row base w v xs) : ∀ k,v.ownBlock=some k->base<=k/\k<w.heap.size:=World.ownsRow.lt h
theorem Row.le {base base':Nat} {w:World} {v:Value} {xs:List Int} (h:Row base w v xs) (hB:base'<=base):Row base' w v xs:=World.ownsRow.mono h hB
theorem Row.kept {base:Nat} {w w':World} {v:Value} {xs:List Int} {row:Option Nat} (h:Row base w v xs) (hg:w.grownBy w' row) (hne:v.ownBlock=none\/v.ownBlock≠row):Row base w' v xs:=World.ownsRow.kept h hg hne
theorem Row.below {base:Nat} {w w':World} {v:Value} {xs:List Int} (h:Row base w v xs) (hb:Below w.heap.size w w'):Row base w' v xs:=
 h.kept (row:=none) ⟨hb.os,hb.tape,hb.output,hb.size,fun b hb' _=>hb.block b hb'⟩ (by
  cases hv:v.ownBlock with
  | none=>exact .inl rfl
  | some g=>exact .inr (by simp))
def Qna (k:Int) (n:Nat):List Int:=(List.range n).map (fun (j:Nat)=>k+(j:Int))
theorem Qnb (k:Int) (n j:Nat) (h:j<n):(Qna k n).getD j 0=k+j:=by simp [Qna,List.getD,h]
theorem Qgl (B:Nat) (w:World) (a:Option Addr) (n cap:Nat) (xs:List Int) (h:IntsIn B w a n xs) (hB:B<=w.heap.size) :
  Calls Tryz.prog 23 #[.slice a n cap] w fun e w'=>e = .returned (.slice (some ⟨w.heap.size,0,none⟩) n n)/\Row w.heap.size w' (.slice (some ⟨w.heap.size,0,none⟩) n n) xs/\Below w.heap.size w w':=by
 obtain ⟨i0,hi,hz0,hz1,hz2⟩:=info_parts Tryz.infoI64
 have hroom:=h.room
 have H:=Lib.hid h
 have hmk:=fun (w:World)=>run_make (P:=Tryz.prog) w 28 3 i0 (.int .i64 0) Tryz.underlying28 hi hz0 .i64 .i64 n n (by omega) (by omega) (by rw [hz2];omega) (by omega)
 obtain ⟨Z,hZ⟩ : ∃ Z,Z=madeCells (Value.cells (.int .i64 0)) ((n:Int).toNat*i0.size):=⟨_,rfl⟩
 have hZl:Z.toList=Qp (List.replicate n 0):=by
  rw [hZ,hz1]
  show (madeCells #[Value.int .i64 0] _).toList=_
  rw [toList_madeCells_one]
  simp [Qp]
 have hZs:Z.size=n:=by have:=congrArg List.length hZl;simpa [Qp] using this
 rw [<- hZ] at hmk
 have HZ:=Lib.hid hZl
 have HS:=Lib.hid hZs
 clear hZl hZs hZ h
 have hown:(w.alloc (.cells Z 3)).ownsRow w.heap.size 3 1 (.slice (some ⟨w.heap.size,0,none⟩) n n) n (Qp (xs.take 0 ++ List.replicate (n-0) 0)):=by
  refine ⟨by simp [Qp],.inr ⟨_,_,Z,rfl,Nat.le_refl _,heap_alloc_new w _,Nat.le_refl _,by unfold maxLen;omega,by rw [HS.out];omega,?_⟩⟩
  rw [HZ.out]
  simp [Qp]
 have HO:=Lib.hid hown
 clear hown
 go_enter Tryz.func23,Tryz.ntmps23
 go_wp2_with fail
 go_loopw [4] (fun i wr => ∃ k:Nat,k<=n/\i = .int .i64 k/\wr.ownsRow w.heap.size 3 1 (.slice (some ⟨w.heap.size,0,none⟩) n n) n (Qp (xs.take k ++ List.replicate (n-k) 0))/\Below w.heap.size w wr) (fun i _=>n-(intOf i).toNat)
 case atStart=>exact ⟨0,Nat.zero_le _,rfl,HO.out,(Below.refl _ _).alloc (Nat.le_refl _) _⟩
 case round =>
  obtain ⟨k,hk,rfl,hown,hb⟩:=hrel
  have HW:=Lib.hid hown
  have HB:=Lib.hid hb
  clear hown hb
  by_cases hlt:k<n
  ·obtain ⟨b,o,rfl,hbB,hcell0⟩:=H.out.cells k hlt
   obtain ⟨X,hX⟩ : ∃ X,X=xs.getD k 0:=⟨_,rfl⟩
   rw [<- hX] at hcell0
   have hcell:=(HB.out.cell (p:=⟨b,o+k,none⟩) (Nat.lt_of_lt_of_le hbB hB)).trans hcell0
   have hfr:=HW.out.frozenAt k
   obtain ⟨u,hu⟩ : ∃ u,wr.cell? ⟨w.heap.size,k,none⟩=some u:=by
    rw [HW.out.cellAt k (by omega)]
    have:k<(Qp (xs.take k ++ List.replicate (n-k) 0)).length:=by rw [HW.out.1];omega
    exact ⟨_,List.getElem?_eq_getElem this⟩
   have HX:=Lib.hid hX
   clear hX
   go_wp2_with fail
   obtain ⟨hs1,hs2⟩:=HW.out.stored k (.int .i64 X)
   go_roundw
   case rel =>
    refine ⟨k+1,by omega,by go_num,?_,HB.out.setCell (by exact Nat.le_refl _) _⟩
    have e:(Qp (xs.take k ++ List.replicate (n-k) 0)).set k (.int .i64 X)=Qp (xs.take (k+1) ++ List.replicate (n-(k+1)) 0):=by
     rw [Qlo,HX.out,show n-k=(n-(k+1))+1 by omega,Qo3 _ _ _ (by rw [H.out.len];exact hlt)]
    rw [<- e]
    exact hs1
   case measure=>simp [intOf];omega
  ·have hkn:k=n:=by omega
   subst hkn
   go_wp2_with fail
   go_ret
   refine ⟨rfl,?_,HB.out⟩
   have:=HW.out
   rw [List.take_of_length_le (by rw [H.out.len];omega),Nat.sub_self,List.replicate_zero,List.append_nil] at this
   unfold Row
   rw [H.out.len]
   exact this
theorem Qlp (w:World) (a1:Option Addr) (n1 c1:Nat) (xs:List Int) (a2:Option Addr) (n2 c2:Nat) (ys:List Int) (h1:IntsIn w.heap.size w a1 n1 xs) (h2:IntsIn w.heap.size w a2 n2 ys) :
  Calls Tryz.prog 25 #[.slice a1 n1 c1,.slice a2 n2 c2] w fun e w'=>e = .returned (.bool (decide (xs=ys)))/\Below w.heap.size w w':=by
 have hr1:=h1.room
 have hr2:=h2.room
 by_cases hn:n1=n2
 ·subst hn
  have H1:=Lib.hid h1
  have H2:=Lib.hid h2
  clear h1 h2
  obtain ⟨d,hd⟩ : ∃ d,d=decide (xs=ys):=⟨_,rfl⟩
  rw [<- hd]
  have HD:=Lib.hid hd
  clear hd
  go_enter Tryz.func25,Tryz.ntmps25
  go_wp2_with fail
  go_loopw [5] (fun i wr => ∃ k:Nat,k<=n1/\i = .int .i64 k/\Hid (∀ j,j<k->xs.getD j 0=ys.getD j 0)/\Below w.heap.size w wr) (fun i _=>n1-(intOf i).toNat)
  case atStart=>exact ⟨0,Nat.zero_le _,rfl,fun j hj=>absurd hj (Nat.not_lt_zero _),Below.refl _ _⟩
  case round =>
   obtain ⟨k,hk,rfl,hsame,hb⟩:=hrel
   have HB:=Lib.hid hb
   clear hb
   by_cases hlt:k<n1
   ·obtain ⟨b,o,rfl,hbB,hcell0⟩:=H1.out.cells k hlt
    obtain ⟨b',o',rfl,hbB',hcell0'⟩:=H2.out.cells k hlt
    obtain ⟨X,hX⟩ : ∃ X,X=xs.getD k 0:=⟨_,rfl⟩
    obtain ⟨Y,hY⟩ : ∃ Y,Y=ys.getD k 0:=⟨_,rfl⟩
    rw [<- hX] at hcell0
    rw [<- hY] at hcell0'
    have hcell:=(HB.out.cell (p:=⟨b,o+k,none⟩) hbB).trans hcell0
    have hcell':=(HB.out.cell (p:=⟨b',o'+k,none⟩) hbB').trans hcell0'
    clear hcell0 hcell0'
    by_cases hxy:X=Y
    ·subst hxy
     have HX:=Lib.hid hX
     have HY:=Lib.hid hY
     clear hX hY
     go_wp2_with fail
     go_quiet (fail)
     go_wp2_with fail
     go_roundw
     case rel =>
      refine ⟨k+1,by omega,by go_num,show Hid _ from fun j hj => ?_,HB.out.trans ⟨rfl,rfl,rfl,Nat.le_refl _,fun _ _=>rfl⟩⟩
      by_cases e:j=k
      ·subst e;exact HX.out.symm.trans HY.out
      ·exact hsame.out j (by omega)
     case measure=>simp [intOf];omega
    ·have hne:(X == Y)=false:=by simpa using hxy
     have hdf:d=false:=by
      rw [HD.out]
      refine decide_eq_false fun e=>hxy ?_
      rw [hX,hY,e]
     subst hdf
     clear hX hY
     go_wp2_with fail
     go_quiet (fail)
     go_wp2_with fail
     go_ret
     exact ⟨rfl,HB.out.trans ⟨rfl,rfl,rfl,Nat.le_refl _,fun _ _=>rfl⟩⟩
   ·have hkn:k=n1:=by omega
    subst hkn
    have hdt:d=true:=by
     rw [HD.out]
     refine decide_eq_true (List.ext_getElem? fun j => ?_)
     by_cases hj:j<k
     ·have:=hsame.out j hj
      have l1:=H1.out.len
      have l2:=H2.out.len
      rw [List.getElem?_eq_getElem (by omega),List.getElem?_eq_getElem (by omega)]
      simpa [List.getD,l1,l2,hj] using this
     ·have l1:=H1.out.len
      have l2:=H2.out.len
      rw [List.getElem?_eq_none (by omega),List.getElem?_eq_none (by omega)]
    subst hdt
    go_wp2_with fail
    go_ret
    exact ⟨rfl,HB.out⟩
 ·have hne:((n1:Int) == (n2:Int))=false:=by rw [beq_eq_false_iff_ne];omega
  have hd:decide (xs=ys)=false:=by
   refine decide_eq_false fun e=>hn ?_
   rw [<- h1.len,<- h2.len,e]
  rw [hd]
  clear hd h1 h2
  go_enter Tryz.func25,Tryz.ntmps25
  go_wp2_with fail
  go_ret
  exact ⟨rfl,Below.refl _ _⟩
theorem Qig (B:Nat) (w:World) (a:Option Addr) (n cap:Nat) (k0:Int) (h:IntsIn B w a n (Qna k0 n)) (hk0:0<=k0) (hk1:k0<=4611686018427387904) :
  Calls Tryz.prog 96 #[.slice a n cap,.int .i64 k0] w fun e w'=>e = .returned (.int .i64 (k0+n))/\w=w':=by
 have hroom:=h.room
 have H:=Lib.hid h
 clear h
 go_enter Tryz.func96,Tryz.ntmps96
 go_wp2_with fail
 go_loop [5,1] (fun i k => ∃ j:Nat,j<=n/\i = .int .i64 j/\k = .int .i64 (k0+j)) (fun i _=>n-(intOf i).toNat)
 case atStart=>exact ⟨0,Nat.zero_le _,rfl,by simp⟩
 case round =>
  obtain ⟨j,hj,rfl,rfl⟩:=hrel
  by_cases hlt:j<n
  ·obtain ⟨b,o,rfl,hbB,hcell⟩:=H.out.cells j hlt
   rw [Qnb k0 n j hlt] at hcell
   go_wp2_with fail
   go_round
   case rel=>exact ⟨j+1,by omega,by go_num,by congr 1;omega⟩
   case measure=>simp [intOf];omega
  ·have hkn:j=n:=by omega
   subst hkn
   go_wp2_with fail
   go_ret
   exact ⟨rfl,rfl⟩
theorem Row.ints {base:Nat} {w:World} {a:Option Addr} {n c:Nat} {xs:List Int} (h:Row base w (.slice a n c) xs) (hl:xs.length=n) (hr:n<=1048576:=by omega):IntsIn w.heap.size w a n xs:=by
 obtain ⟨a',c',e,hi⟩:=h.form
 cases e
 exact hi (by omega)
theorem Row.form' {base:Nat} {w:World} {v:Value} {n:Nat} {xs:List Int} (h:Row base w v xs) (hl:Hid (xs.length=n)) (hr:n<=1048576) : ∃ a cap,v = .slice a n cap/\IntsIn w.heap.size w a n xs:=by
 obtain ⟨a,c,e,hi⟩:=h.form
 have:=hl.out
 subst this
 exact ⟨a,c,e,hi hr⟩
theorem Qjz (w:World) (a1:Option Addr) (n1 c1:Nat) (xs:List Int) (a2:Option Addr) (c2:Nat) (h1:IntsIn w.heap.size w a1 n1 xs) (h2:IntsIn w.heap.size w a2 n1 xs) :
  Calls Tryz.prog 25 #[.slice a1 n1 c1,.slice a2 n1 c2] w fun e w'=>e = .returned (.bool true)/\Below w.heap.size w w':=
 (Qlp w a1 n1 c1 xs a2 n1 c2 xs h1 h2).mono fun e w' ⟨he,hb⟩=>⟨by rw [he,decide_eq_true rfl],hb⟩
end Go.Proofs.YtcooobnaocbdjaaGreatDoor

end
