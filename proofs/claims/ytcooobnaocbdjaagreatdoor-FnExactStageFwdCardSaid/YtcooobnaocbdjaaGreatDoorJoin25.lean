import Derived.Test.YtcooobnaocbdjaaGreatDoorJoin23
import Derived.Test.YtcooobnaocbdjaaGreatDoorJoin10
import Derived.Test.YtcooobnaocbdjaaGreatDoorJoin5
import Derived.Test.YtcooobnaocbdjaaGreatDoorJoin24
import Derived.Deep.AppendLies
set_option linter.unusedVariables false
namespace Go.Proofs.YtcooobnaocbdjaaGreatDoor
open Go.RowKit Go.Sort
theorem Qlg:(Tryz.prog.info? 95).map (fun i=>(i.zero,i.size,i.bytes))=some (some (.agg #[.slice none 0 0]),1,24):=by kernel_rfl
theorem Row.made (w:World) (n:Nat) (h:n<=9223372036854775807):Row w.heap.size (w.alloc (.cells (madeCells #[.int .i64 0] n) 3 (0,0))) (.slice (some ⟨w.heap.size,0,none⟩) n n) (Qd5 n):=by
 have h1:(Qd5 n).length=n:=by unfold Qd5;rw [List.length_replicate]
 have h2:(madeCells #[.int .i64 0] n).toList=Qp (Qd5 n):=by
  rw [toList_madeCells_one]
  unfold Qp Qd5
  rw [List.map_replicate]
 have h3:=World.ownsRow_lit (base:=w.heap.size) (e:=3) (size:=1) w (madeCells #[.int .i64 0] n) n (Nat.le_refl _) (by unfold maxLen;omega) (by rw [size_madeCells,Nat.mul_one])
 unfold Row
 rw [h1,<- h2]
 exact h3
theorem Row.ownRow {base:Nat} {w:World} {u:Value} {x:List Int} (h:Row base w u x):ownRow.owns (Zb base w.heap.size) w [u] x:=h.own
theorem ListL.stored {α:Type} {S:Owned α} {T:TypeId} {lo hi:Nat} {w:World} {v:Value} {xs:List α} (h:ListL S T lo hi w v xs) (g i:Nat) (u:Value) (hg:g<lo):ListL S T lo hi (w.setCell ⟨g,i,none⟩ u) v xs:=by
 have hb : ∀ k,lo<=k->(w.setCell ⟨g,i,none⟩ u).heap[k]? = w.heap[k]?:=fun k hk=>heap_setCell_other _ _ _ _ (by show k≠g;omega)
 obtain ⟨us,G,h1,h2,h3,h4,h5⟩:=h.all
 refine ⟨by simpa using h.top,us,G,⟨h1.1,h1.2.imp id ?_⟩,h2,fun j x hx => ?_,h4,h5⟩
 ·rintro ⟨k,cap,cur,rfl,e1,e2,e3⟩
  exact ⟨k,cap,cur,rfl,e1,(hb k e1).trans e2,e3⟩
 ·obtain ⟨es,q1,q2⟩:=h3 j x hx
  refine ⟨es,q1,S.owns_keep q2 ((Touched.set (F:=fun b _=>b=g) w g i u rfl).same fun b o f f' => ?_)⟩
  have e:b=g:=f
  have:=(h4 j b o f').1
  omega
theorem Boxes.far {w w1 w4:World} {A Z O:Array Value} {TA T:TypeId} (h:Boxes w w1 A Z O TA T) (hb:Below (w.heap.size+3) w1 w4):Boxes w w4 A Z O TA T:=
 ⟨h.below.trans (hb.mono (by omega)),Nat.le_trans h.size hb.size,(hb.block _ (by omega)).trans h.a,(hb.block _ (by omega)).trans h.z,(hb.block _ (by omega)).trans h.o⟩
theorem Qdx (w:World) (o:Obj):(w.alloc o).heap.size=w.heap.size+1:=by simp
theorem Qcw (a:Option Addr) (n c:Nat) : ∀ u∈[Value.slice a n c],u.oneCell'=true:=by
 intro u hu
 rw [List.mem_singleton.1 hu]
 rfl
end Go.Proofs.YtcooobnaocbdjaaGreatDoor
