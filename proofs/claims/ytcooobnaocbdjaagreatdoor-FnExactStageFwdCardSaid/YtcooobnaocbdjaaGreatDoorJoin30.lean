import Derived.Test.YtcooobnaocbdjaaGreatDoorJoin29
import Derived.Test.YtcooobnaocbdjaaGreatDoorJoin17
import Derived.Test.YtcooobnaocbdjaaGreatDoorJoin5
import Derived.Test.YtcooobnaocbdjaaGreatDoorJoin22
import Derived.Maps.Own
import Derived.Deep.QuietTactic
import Derived.BigQuiet
/-! YtcooobnaocbdjaaGreatDoorPStgG -/
section
set_option linter.unusedVariables false
namespace Go.Proofs.YtcooobnaocbdjaaGreatDoor
open Go.RowKit
def ButX (X:Nat->Prop) (wx wy:World):Prop:=wx.heap.size<=wy.heap.size /\ ∀ b,¬ X b->b<wx.heap.size->wy.heap[b]? = wx.heap[b]?
theorem ButX.refl (X:Nat->Prop) (wx:World):ButX X wx wx:=⟨Nat.le_refl _,fun _ _ _=>rfl⟩
theorem ButX.trans {X:Nat->Prop} {wx wy wz:World} (h:ButX X wx wy) (h':ButX X wy wz):ButX X wx wz:=⟨Nat.le_trans h.1 h'.1,fun b h1 h2=>(h'.2 b h1 (Nat.lt_of_lt_of_le h2 h.1)).trans (h.2 b h1 h2)⟩
theorem ButX.called {X:Nat->Prop} {wx wy:World} (h:Below wx.heap.size wx wy):ButX X wx wy:=⟨h.size,fun b _ h2=>h.block b h2⟩
theorem ButX.stored {X:Nat->Prop} {g:Nat} (hg:X g) (wx:World) (i:Nat) (u:Value):ButX X wx (wx.setCell ⟨g,i,none⟩ u):=⟨by simp,fun b h1 _=>heap_setCell_other _ _ _ _ (by show b≠g;exact fun e=>h1 (e ▸ hg))⟩
theorem ButX.grown {X:Nat->Prop} {wx wy:World} {row:Option Nat} (h:wx.grownBy wy row) (hr : ∀ k,row=some k->X k\/wx.heap.size<=k):ButX X wx wy:=
 ⟨h.size,fun b h1 h2=>h.block b h2 fun e=>by
  rcases hr b e.symm with h3 | h3
  ·exact h1 h3
  ·omega⟩
theorem ButX.ended {X:Nat->Prop} {wx wf:World} {g:Nat} (hs:wf.heap.size=wx.heap.size) (h : ∀ b,b≠g->wf.heap[b]? = wx.heap[b]?) (hg:X g):ButX X wx wf:=⟨Nat.le_of_eq hs.symm,fun b h1 _=>h b fun e=>h1 (e ▸ hg)⟩
theorem ButX.weak {X X':Nat->Prop} {wx wy:World} (h:ButX X wx wy) (hX : ∀ b,X b->X' b):ButX X' wx wy:=⟨h.1,fun b h1 h2=>h.2 b (fun hx=>h1 (hX b hx)) h2⟩
theorem LL.but {α:Type} {S:Shape α} {X:Nat->Prop} {lo hi:Nat} {wx wy:World} {v:Value} {xs:List α} (h:LL S lo hi wx v xs) (hb:ButX X wx wy) (hX : ∀ b,lo<=b->b<hi -> ¬ X b):LL S lo hi wy v xs:=by
 obtain ⟨h0,a,n,c,e,h1,h2,h3⟩:=h
 exact ⟨Nat.le_trans h0 hb.1,a,n,c,e,h1,h2,h3.keep fun b hb'=>hb.2 b (hX b hb'.1 hb'.2) (Nat.lt_of_lt_of_le hb'.2 h0)⟩
theorem ListL.but {α:Type} {S:Owned α} {T:TypeId} {X:Nat->Prop} {lo hi:Nat} {wx wy:World} {v:Value} {xs:List α} (h:ListL S T lo hi wx v xs) (hb:ButX X wx wy) (hX : ∀ b,lo<=b->b<hi -> ¬ X b):ListL S T lo hi wy v xs:=
 h.keepB (fun b h1 h2=>hb.2 b (hX b h1 h2) (Nat.lt_of_lt_of_le h2 h.top)) (Nat.le_trans h.top hb.1)
theorem Qk.but {α:Type} {S:Owned α} {X:Nat->Prop} {F:Foot} {wx wy:World} {a:Option Addr} {n:Nat} {xs:List α} (h:Qk S F wx a n xs) (hb:ButX X wx wy) (hX : ∀ b o,F b o -> ¬ X b/\b<wx.heap.size):Qk S F wy a n xs:=
 h.keep fun b o f=>by
  have e:=hb.2 b (hX b o f).1 (hX b o f).2
  exact ⟨World.cell?_of_block (a:=⟨b,o,none⟩) e,World.frozen?_of_block (a:=⟨b,o,none⟩) e⟩
theorem Qk.take {α:Type} {S:Owned α} {F:Foot} {w:World} {a:Option Addr} {n:Nat} {xs:List α} (h:Qk S F w a n xs) (k:Nat) (hk:k<=n):Qk S F w a k (xs.take k):=by
 obtain ⟨h0,h1⟩:=h
 refine ⟨by rw [List.length_take,h0];omega,?_⟩
 rcases h1 with h1 | ⟨b,o,G,e,q1,q2,q3,q4,q5⟩
 ·exact .inl (by omega)
 ·have hle:k*S.size<=n*S.size:=Nat.mul_le_mul_right _ hk
  refine .inr ⟨b,o,G,e,fun i hi=>q1 i (by omega),fun i hi=>q2 i (by omega),fun j x hx => ?_,fun j b' o' f=>⟨(q4 j b' o' f).1,fun c=>(q4 j b' o' f).2 ⟨c.1,c.2.1,by have:=c.2.2;omega⟩⟩,q5⟩
  rw [List.getElem?_take] at hx
  split at hx
  ·exact q3 j x hx
  ·cases hx
theorem LL.emptyAt {α:Type} {S:Shape α} {lo hi:Nat} {w:World} (h:hi<=w.heap.size) (a:Option Addr):LL S lo hi w (.slice a 0 0) ([]:List α):=⟨h,a,0,0,rfl,Nat.le_refl _,by omega,rfl,fun j x hx=>by simp at hx⟩
end Go.Proofs.YtcooobnaocbdjaaGreatDoor

end

/-! YtcooobnaocbdjaaGreatDoorPListB -/
section
set_option linter.unusedVariables false
namespace Go.Proofs.YtcooobnaocbdjaaGreatDoor
open Go.RowKit
def Qbo {α:Type} (S:Owned α) (T:TypeId) (J:Nat->Prop) (w:World) (v:Value) (xs:List α):Prop:=
 ∃ (us:List Value) (G:Nat->Foot),w.ownsRow 0 T S.size v xs.length us/\(∀ g,v.ownBlock=some g->J g) /\
  (∀ j x,xs[j]? = some x -> ∃ es,(∀ i u,es[i]? = some u->us[j*S.size+i]? = some u)/\S.owns (G j) w es x) /\
  (∀ j b o,G j b o->J b/\v.ownBlock≠some b) /\ ∀ j j',j≠j'->Zp (G j) (G j')
variable {α:Type} {S:Owned α} {T:TypeId} {lo hi:Nat} {J:Nat->Prop} {w w':World} {v v':Value} {xs:List α}
theorem ListL.toB (h:ListL S T lo hi w v xs):Qbo S T (From lo hi) w v xs:=by
 obtain ⟨us,G,h1,h2,h3,h4,h5⟩:=h.all
 exact ⟨us,G,World.ownsRow.mono h1 (Nat.zero_le _),fun g hg=>⟨(World.ownsRow.lt h1 g hg).1,h2 g hg⟩,h3,fun j b o f=>⟨⟨(h4 j b o f).1,(h4 j b o f).2.1⟩,(h4 j b o f).2.2⟩,h5⟩
theorem Qbo.sub {J':Nat->Prop} (h:Qbo S T J w v xs) (hJ : ∀ b,J b->J' b):Qbo S T J' w v xs:=by
 obtain ⟨us,G,h1,h2,h3,h4,h5⟩:=h
 exact ⟨us,G,h1,fun g hg=>hJ g (h2 g hg),h3,fun j b o f=>⟨hJ b (h4 j b o f).1,(h4 j b o f).2⟩,h5⟩
theorem Qbo.keep (h:Qbo S T J w v xs) (hk:Kept J w w'):Qbo S T J w' v xs:=by
 obtain ⟨us,G,h1,h2,h3,h4,h5⟩:=h
 refine ⟨us,G,⟨h1.1,h1.2.imp id ?_⟩,h2,fun j x hx => ?_,h4,h5⟩
 ·rintro ⟨g,cap,cur,rfl,e1,e2,e3⟩
  exact ⟨g,cap,cur,rfl,e1,(hk g (h2 g rfl)).trans e2,e3⟩
 ·obtain ⟨es,q1,q2⟩:=h3 j x hx
  exact ⟨es,q1,S.owns_keep q2 fun b o f=>⟨World.cell?_of_block (a:=⟨b,o,none⟩) (hk b (h4 j b o f).1),World.frozen?_of_block (a:=⟨b,o,none⟩) (hk b (h4 j b o f).1)⟩⟩
theorem Qbo.own (h:Qbo S T J w v xs) (hS:0<S.size):(Owned.list S hS).owns (fun b _=>J b) w [v] xs:=by
 obtain ⟨us,G,h1,h2,h3,h4,h5⟩:=h
 have h1':=h1
 rcases h1.2 with ⟨rfl,hn⟩ | ⟨g,cap,cur,rfl,e1,e2,e3,e4,-⟩
 ·exact ⟨none,0,0,rfl,Nat.le_refl _,by omega,hn,.inl rfl⟩
 ·unfold maxLen at e4
  have hgh:=h2 g rfl
  have hus:us.length=xs.length*S.size:=h1.1
  refine ⟨_,xs.length,cap,rfl,e3,by omega,rfl,.inr ⟨g,0,G,rfl,fun i hi=>hgh,fun i hi => ?_,fun j x hx => ?_,fun j b' o' f => ?_,h5⟩⟩
  ·rw [Nat.zero_add]
   constructor
   ·rw [World.ownsRow.cellAt h1' i hi,List.getElem?_eq_getElem (by omega)];rfl
   ·exact World.ownsRow.frozenAt h1' i
  ·obtain ⟨es,q1,q2⟩:=h3 j x hx
   refine ⟨es,fun i u hu => ?_,q2⟩
   have hj:j<xs.length:=(List.getElem?_eq_some_iff.1 hx).1
   have hi:=(List.getElem?_eq_some_iff.1 hu).1
   have hl:=S.owns_len q2
   have hp:=Q9 (s:=S.size) hj
   rw [Nat.zero_add,World.ownsRow.cellAt h1' _ (by omega)]
   exact q1 i u hu
  ·have q:=h4 j b' o' f
   exact ⟨q.1,fun c=>q.2 (by rw [c.1];rfl)⟩
theorem Qbo.form (h:Qbo S T J w v xs) : ∃ a cap,v = .slice a xs.length cap/\xs.length<=cap/\cap<=9223372036854775807:=by
 obtain ⟨us,G,h1,-⟩:=h
 rcases h1.2 with ⟨rfl,hn⟩ | ⟨g,cap,cur,rfl,e1,e2,e3,e4,-⟩
 ·exact ⟨none,0,by rw [hn],by omega,by omega⟩
 ·unfold maxLen at e4
  exact ⟨_,cap,rfl,e3,by omega⟩
theorem Qbo.put {es:List Value} {x:α} {F:Foot} {JF:Nat->Prop} {o:Obj} {us:List Value} {G:Nat->Foot}
  (h1:w.ownsRow 0 T S.size v xs.length us) (h2 : ∀ g,v.ownBlock=some g->J g) (hJ : ∀ b,J b->b<w.heap.size) (h3 : ∀ j x,xs[j]? = some x -> ∃ es,(∀ i u,es[i]? = some u->us[j*S.size+i]? = some u)/\S.owns (G j) w es x)
  (h4 : ∀ j b o,G j b o->J b/\v.ownBlock≠some b) (h5 : ∀ j j',j≠j'->Zp (G j) (G j'))
  (hs:S.owns F w es x) (hF : ∀ b o,F b o->JF b) (hJF : ∀ b,JF b->b<w.heap.size /\ ¬ J b) (hl:es.length=S.size)
  (hown:w'.ownsRow 0 T S.size v' (xs.length+1) (us ++ es)) (hg:(w.alloc o).grownBy w' v.ownBlock) (hv:v'.ownBlock=v.ownBlock\/v'.ownBlock=some (w.alloc o).heap.size) :
  Qbo S T (fun b=>J b\/JF b\/(w.heap.size<b/\b<w'.heap.size)) w' v' (xs ++ [x]):=by
 have hsz:(w.alloc o).heap.size=w.heap.size+1:=by simp
 have hus:us.length=xs.length*S.size:=h1.1
 have hkeep : ∀ (F:Foot),(∀ b o,F b o->b<w.heap.size/\v.ownBlock≠some b)->Qaf F w w':=fun F hF b o f=>by
  have hb:=hF b o f
  have e:=(hg.block b (by omega) (fun e=>hb.2 e.symm)).trans (heap_alloc_old w _ hb.1)
  exact ⟨World.cell?_of_block (a:=⟨b,o,none⟩) e,World.frozen?_of_block (a:=⟨b,o,none⟩) e⟩
 refine ⟨us ++ es,fun j=>if j<xs.length then G j else if j=xs.length then F else fun _ _=>False,by simpa using hown,fun g hgv => ?_,fun j y hy => ?_,fun j b o' f => ?_,fun j j' hne b o' f f' => ?_⟩
 ·rcases hv with e | e
  ·exact .inl (h2 g (e ▸ hgv))
  ·have:=(World.ownsRow.lt hown g hgv).2
   rw [e] at hgv
   have:(w.alloc o).heap.size=g:=by simpa using hgv
   exact .inr (.inr ⟨by omega,by assumption⟩)
 ·by_cases hj:j<xs.length
  ·rw [List.getElem?_append_left hj] at hy
   obtain ⟨es',q1,q2⟩:=h3 j y hy
   simp only [if_pos hj]
   refine ⟨es',fun i u hu => ?_,S.owns_keep q2 (hkeep _ fun b o f=>⟨hJ b (h4 j b o f).1,(h4 j b o f).2⟩)⟩
   have:=q1 i u hu
   rw [List.getElem?_append_left (List.getElem?_eq_some_iff.1 this).1]
   exact this
  ·rw [List.getElem?_append_right (by omega)] at hy
   have hj0:j-xs.length=0:=by
    cases e:j-xs.length with
    | zero=>rfl
    | succ i=>rw [e] at hy;simp at hy
   obtain rfl:j=xs.length:=by omega
   simp at hy
   subst hy
   simp only [Nat.lt_irrefl,if_false,if_true]
   refine ⟨es,fun i u hu => ?_,S.owns_keep hs (hkeep _ fun b o f=>⟨(hJF b (hF b o f)).1,fun e=>(hJF b (hF b o f)).2 (h2 b e)⟩)⟩
   rw [<- hus,List.getElem?_append_right (by omega),Nat.add_sub_cancel_left]
   exact hu
 ·by_cases hj:j<xs.length
  ·simp only [if_pos hj] at f
   have q:=h4 j b o' f
   refine ⟨.inl q.1,?_⟩
   rcases hv with e | e
   ·rw [e];exact q.2
   ·rw [e];intro e';have e2:(w.alloc o).heap.size=b:=by simpa using e'
    have:=hJ b q.1
    omega
  ·by_cases hj':j=xs.length
   ·subst hj'
    simp only [Nat.lt_irrefl,if_false,if_true] at f
    have q:=hF b o' f
    refine ⟨.inr (.inl q),?_⟩
    rcases hv with e | e
    ·rw [e];intro e';exact (hJF b q).2 (h2 b e')
    ·rw [e];intro e';have e2:(w.alloc o).heap.size=b:=by simpa using e'
     have:=(hJF b q).1
     omega
   ·simp only [if_neg hj,if_neg hj'] at f
 ·have key : ∀ i,(if i<xs.length then G i else if i=xs.length then F else fun _ _=>False) b o'->(i<xs.length/\G i b o')\/(i=xs.length/\F b o'):=fun i f=>by
   by_cases hi:i<xs.length
   ·simp only [if_pos hi] at f;exact .inl ⟨hi,f⟩
   ·by_cases hi':i=xs.length
    ·simp only [if_neg hi,if_pos hi'] at f;exact .inr ⟨hi',f⟩
    ·simp only [if_neg hi,if_neg hi'] at f
  rcases key j f with ⟨a1,a2⟩ | ⟨a1,a2⟩ <;> rcases key j' f' with ⟨b1,b2⟩ | ⟨b1,b2⟩
  ·exact h5 j j' hne b o' a2 b2
  ·exact (hJF b (hF b o' b2)).2 (h4 j b o' a2).1
  ·exact (hJF b (hF b o' a2)).2 (h4 j' b o' b2).1
  ·omega
theorem Qh9 (w0:World) {α:Type} {S:Owned α} {T Ts:TypeId} {ops:Array Oper} {o:Oper} {a:Act} {K:Act->World->Prop} {Q:Exit->Act->World->Prop} {E:Prop} (hgd:o.guard=none) (s x:Operand)
  (ho:o.op = .call { callee:= .builtin .append,args:=#[s,x],argTypes:=#[Ts,Ts] }) (i:TypeInfo) (z:Value) (bytes:Nat) (ht:Tryz.prog.underlying Ts=some (.slice T)) (hi:Tryz.prog.info? T=some i) (hz:i.zero=some z)
  (hsize:i.size=S.size) (hby:i.bytes=bytes) (hzs:z.cells.size=S.size) (hsz:0<S.size) (hbb:bytes<=1000) (J JF:Nat->Prop) (hJ : ∀ b,J b->b<w0.heap.size) (v:Value) (xs:List α) (y:α) (es:List Value) (F:Foot) (hs:a.eval s=v) (hl:Qbo S T J w0 v xs)
  (hown:S.owns F w0 es y) (hF : ∀ b o,F b o->JF b) (hJF : ∀ b,JF b->b<w0.heap.size /\ ¬ J b) (hone : ∀ u∈es,u.oneCell'=true) (hx:a.eval x = .slice (some ⟨w0.heap.size,0,none⟩) 1 1) (hlen:xs.length<=1048576)
  (h : ∀ ar nr cr w',Qbo S T (fun b=>J b\/JF b\/(w0.heap.size<b/\b<w'.heap.size)) w' (.slice ar nr cr) (xs ++ [y])->w0.heap.size<=w'.heap.size->w0.grownBy w' v.ownBlock->K (a.put o.dst (.slice ar nr cr)) w') :
  if Region.wanted o (yielded ops a.tmps)=true then Oper.wp Tryz.prog o a (w0.alloc (.cells es.toArray T (0,0))) K Q else E:=by
 have hle:=S.owns_len hown
 obtain ⟨us,G,q1,q2,q3,q4,q5⟩:=hl
 have hb0:(xs.length+1)*bytes<=1048577*1000:=Nat.mul_le_mul (by omega) hbb
 refine step_append_lies (w0.alloc (.cells es.toArray T (0,0))) hgd s x Ts ho 0 T i z S.size bytes ht hi hz hsize hby hzs hsz v xs.length us hs (q1.alloc _) ⟨w0.heap.size,0,none⟩ 1 1 es hx (by rw [hle,Nat.one_mul]) (fun j u hu=>by
  rw [Addr.add_lit,cell_of_row _ _ _ _ _ _ (heap_alloc_new w0 _)]
  simpa using hu) hone (by decide) (by unfold maxLen;omega) (by omega) (Nat.zero_le _) _ rfl ?_
 intro g cap w' hown' hg hat hlt
 refine h _ _ _ w' (Qbo.put (S:=S) (T:=T) (J:=J) (JF:=JF) (w:=w0) (w':=w') (v:=v) (v':= .slice (some ⟨g,0,none⟩) (xs.length+1) cap) (xs:=xs) (o:= .cells es.toArray T (0,0)) (x:=y) (F:=F)
  q1 q2 hJ q3 q4 q5 hown hF hJF hle hown' hg (by
   rcases hat with e | e
   ·exact .inl e.symm
   ·exact .inr (congrArg some e))) (Nat.le_trans (by simp) hg.size) ⟨hg.os.trans rfl,hg.tape.trans rfl,hg.output.trans rfl,Nat.le_trans (by simp) hg.size,fun b hb hne=>(hg.block b (by simp;omega) hne).trans (heap_alloc_old w0 _ hb)⟩
end Go.Proofs.YtcooobnaocbdjaaGreatDoor

end

/-! YtcooobnaocbdjaaGreatDoorPCloneA -/
section
set_option maxRecDepth 100000
set_option linter.unusedSimpArgs false
set_option linter.unusedVariables false
namespace Go.Proofs.YtcooobnaocbdjaaGreatDoor
open Go.RowKit
theorem Qmr (ad:Addr) (n c:Nat) (w:World):(binOp .eql 28 (.slice (some ad) n c) (.slice none 0 0)).run Tryz.prog w = .ok (.bool false) w:=by kernel_rfl
theorem Qms (n c:Nat) (w:World):(binOp .eql 28 (.slice none n c) (.slice none 0 0)).run Tryz.prog w = .ok (.bool true) w:=by kernel_rfl
theorem Qkt (w:World):(w.alloc (.cells #[] 3 (0,0))).ownsRow w.heap.size 3 1 (.slice (some ⟨w.heap.size,0,none⟩) 0 0) 0 []:=
 ⟨by simp,.inr ⟨w.heap.size,0,#[],rfl,Nat.le_refl _,heap_alloc_new w _,Nat.le_refl _,Nat.zero_le _,by simp,by simp⟩⟩
theorem Qmt {base:Nat} {w:World} {v:Value} {n:Nat} {ds:List Int} (h:w.ownsRow base 3 1 v (0+n) ([] ++ Qp ds)):Row base w v ds:=by
 rw [List.nil_append,Nat.zero_add] at h
 have hn:n=ds.length:=by have:=h.1;rw [Z5] at this;omega
 subst hn
 exact h
theorem Jd (w:World) (a:Option Addr) (n c:Nat) (ds:List Int) (h:IntsIn w.heap.size w a n ds) :
  Calls Tryz.prog 53 #[.slice a n c] w fun e w' => ∃ ar cr,e = .returned (.slice ar n cr)/\Row w.heap.size w' (.slice ar n cr) ds/\Below w.heap.size w w':=by
 obtain ⟨i0,hi0,hz0,hz1,hz2⟩:=info_parts Tryz.infoI64
 have hl:=h.len
 have hroom:=h.room
 cases a with
 | none =>
  obtain rfl:n=0:=by
   rcases Nat.eq_zero_or_pos n with e | e
   ·exact e
   ·obtain ⟨b,o',e',-⟩:=h.cells 0 e
    cases e'
  obtain rfl:ds=[]:=List.eq_nil_of_length_eq_zero hl
  have hnn:=Qms 0 c
  clear h hl
  go_enter Tryz.func53,Tryz.ntmps53
  go_wp2_with fail
  go_ret
  exact ⟨none,0,rfl,Row.nil _ _,Below.refl _ _⟩
 | some ad =>
  have hnn:=Qmr ad n c
  have HY:=Lib.hid h
  have HL:=Lib.hid hl
  clear h hl
  go_enter Tryz.func53,Tryz.ntmps53
  go_wp2_with (at_builtin;refine wpList_append_own _ rfl _ _ 28 rfl w.heap.size 3 i0 (.int .i64 0) 1 8 Tryz.underlying28 hi0 hz0 hz1 hz2 rfl (by decide) _ _ _ rfl (Qkt w) ad n c (Qp ds) rfl (by rw [Z5,HL.out,Nat.mul_one]) (Qem (HY.out.below ((Below.refl w.heap.size w).alloc (Nat.le_refl _) _) (by omega))) Qel (by unfold maxLen;omega) (by omega) (by simp) ?_;intro v2 w2 hown hgrow _;have hr:=Qmt hown;have hb:=((Below.refl w.heap.size w).alloc (Nat.le_refl _) (.cells #[] 3 (0,0))).grown hgrow (by simp) (fun k e=>by cases e;exact Nat.le_refl _);have HR:=Lib.hid hr;have HB:=Lib.hid hb;clear hown hgrow hr hb)
  go_ret
  obtain ⟨ar,cr,rfl,-⟩:=HR.out.form
  have hr:=HR.out
  rw [HL.out] at hr
  exact ⟨ar,cr,by rw [HL.out];rfl,hr,HB.out⟩
end Go.Proofs.YtcooobnaocbdjaaGreatDoor

end
