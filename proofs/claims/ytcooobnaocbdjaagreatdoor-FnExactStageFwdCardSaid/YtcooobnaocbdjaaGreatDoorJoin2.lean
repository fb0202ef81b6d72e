import Derived.Test.YtcooobnaocbdjaaGreatDoorJoin1
import Derived.Deep.MidRow
import Derived.Deep.Slices
import Derived.ChangeArms
import Derived.Test.YtcooobnaocbdjaaGreatDoorProg
import Derived.Outline
/-! YtcooobnaocbdjaaGreatDoorPShape -/
section
set_option linter.unusedVariables false
namespace Go.Proofs.YtcooobnaocbdjaaGreatDoor
open Go.RowKit
abbrev Qf (B:Nat):Nat->Prop:=fun b=>b<B
abbrev From (lo hi:Nat):Nat->Prop:=fun b=>lo<=b/\b<hi
def Kept (I:Nat->Prop) (w w':World):Prop:= ∀ b,I b->w'.heap[b]? = w.heap[b]?
theorem Kept.of_below {I:Nat->Prop} {B:Nat} {w w':World} (h:Below B w w') (hI : ∀ b,I b->b<B):Kept I w w':=fun b hb=>h.block b (hI b hb)
theorem Qr {I:Nat->Prop} {w w':World} {b o:Nat} {es:List Value} (h:w.rangeAt b o es) (hb:I b) (hw:Kept I w w'):w'.rangeAt b o es:=
 fun j v hv=>(World.cell?_of_block (w:=w) (w':=w') (a:=⟨b,o+j,none⟩) (hw b hb)).trans (h j v hv)
structure Shape (α:Type):Type 1 where
 size:Nat
 reads:(Nat->Prop)->World->List Value->α->Prop
 fits:Program->TypeId->Bool
 bulk:α->Nat
 len : ∀ {I w cs d},reads I w cs d->cs.length=size
 keep : ∀ {I w w' cs d},reads I w cs d->Kept I w w'->reads I w' cs d
 sub : ∀ {I J:Nat->Prop} {w cs d},reads I w cs d->(∀ b,I b->J b)->reads J w cs d
 opens : ∀ {H:Type} {enc:TypeId × Value->H} {P:Program} {w:World} {base:Nat} {spare:Nat->Bool} {held:Bool} {fuel:Nat} {t:TypeId} {cs:List Value} {x:DataW H × List MemPlace},
  fits P t=true->DataW.trod enc P w base spare held fuel t cs=some x -> ∃ d,reads (Qf w.heap.size) w cs d
def Qb {α:Type} (S:Shape α) (I:Nat->Prop) (w:World) (a:Option Addr) (n:Nat) (xs:List α):Prop:=
 xs.length=n /\ ∀ (j:Nat) (x:α),xs[j]? = some x -> ∃ b o es,a=some ⟨b,o,none⟩/\I b/\w.rangeAt b (o+j*S.size) es/\S.reads I w es x
theorem Qb.keep {α:Type} {S:Shape α} {I:Nat->Prop} {w w':World} {a:Option Addr} {n:Nat} {xs:List α} (h:Qb S I w a n xs) (hw:Kept I w w'):Qb S I w' a n xs:=
 ⟨h.1,fun j x hx=>by
  obtain ⟨b,o,es,e,hb,hr,hs⟩:=h.2 j x hx
  exact ⟨b,o,es,e,hb,Qr hr hb hw,S.keep hs hw⟩⟩
theorem Qb.sub {α:Type} {S:Shape α} {I J:Nat->Prop} {w:World} {a:Option Addr} {n:Nat} {xs:List α} (h:Qb S I w a n xs) (hI : ∀ b,I b->J b):Qb S J w a n xs:=
 ⟨h.1,fun j x hx=>by
  obtain ⟨b,o,es,e,hb,hr,hs⟩:=h.2 j x hx
  exact ⟨b,o,es,e,hI b hb,hr,S.sub hs hI⟩⟩
theorem Qb.below {α:Type} {S:Shape α} {B B':Nat} {w w':World} {a:Option Addr} {n:Nat} {xs:List α} (h:Qb S (Qf B) w a n xs) (hw:Below B' w w') (hB:B<=B'):Qb S (Qf B) w' a n xs:=
 h.keep (.of_below hw fun b hb=>Nat.lt_of_lt_of_le hb hB)
theorem Qb.le {α:Type} {S:Shape α} {B B':Nat} {w:World} {a:Option Addr} {n:Nat} {xs:List α} (h:Qb S (Qf B) w a n xs) (hB:B<=B'):Qb S (Qf B') w a n xs:=
 h.sub fun b hb=>Nat.lt_of_lt_of_le hb hB
theorem Shape.below {α:Type} (S:Shape α) {B B':Nat} {w w':World} {cs:List Value} {d:α} (h:S.reads (Qf B) w cs d) (hw:Below B' w w') (hB:B<=B'):S.reads (Qf B) w' cs d:=
 S.keep h (.of_below hw fun b hb=>Nat.lt_of_lt_of_le hb hB)
theorem Shape.le {α:Type} (S:Shape α) {B B':Nat} {w:World} {cs:List Value} {d:α} (h:S.reads (Qf B) w cs d) (hB:B<=B'):S.reads (Qf B') w cs d:=
 S.sub h fun b hb=>Nat.lt_of_lt_of_le hb hB
namespace Shape
def int:Shape Int where
 size:=1
 reads:=fun _ _ cs x=>cs=[.int .i64 x]
 fits:=fun P t=>match P.underlying t with | some (.int .i64)=>true | _=>false
 bulk:=fun _=>0
 len:=by rintro _ _ _ _ rfl;rfl
 keep:=fun h _=>h
 sub:=fun h _=>h
 opens:=by
  intro H enc P w base spare held fuel t cs x hf h
  split at hf
  ·rename_i ht
   obtain ⟨n,hn,_⟩:=DataW.trod_int ht h
   exact ⟨n,hn⟩
  ·cases hf
def bool:Shape Bool where
 size:=1
 reads:=fun _ _ cs x=>cs=[.bool x]
 fits:=fun P t=>match P.underlying t with | some .bool=>true | _=>false
 bulk:=fun _=>0
 len:=by rintro _ _ _ _ rfl;rfl
 keep:=fun h _=>h
 sub:=fun h _=>h
 opens:=by
  intro H enc P w base spare held fuel t cs x hf h
  split at hf
  ·rename_i ht
   obtain ⟨n,hn,_⟩:=DataW.trod_bool ht h
   exact ⟨n,hn⟩
  ·cases hf
theorem list_of {α:Type} {p:Nat->α->Prop} (n:Nat) (h : ∀ j,j<n -> ∃ x,p j x) : ∃ xs:List α,xs.length=n /\ ∀ j x,xs[j]? = some x->p j x:=by
 induction n with
 | zero=>exact ⟨[],rfl,fun j x hx=>by simp at hx⟩
 | succ n ih =>
  obtain ⟨xs,hl,hp⟩:=ih fun j hj=>h j (by omega)
  obtain ⟨x,hx⟩:=h n (by omega)
  refine ⟨xs ++ [x],by simp [hl],fun j y hy => ?_⟩
  by_cases hj:j<n
  ·rw [List.getElem?_append_left (by omega)] at hy
   exact hp j y hy
  ·have hjn:j=n:=by
    have:=(List.getElem?_eq_some_iff.1 hy).1
    simp [hl] at this
    omega
   subst hjn
   rw [List.getElem?_append_right (by omega),hl,Nat.sub_self] at hy
   cases hy
   exact hx
def sum {α:Type} (f:α->Nat):List α->Nat
 | []=>0
 | x::xs=>f x+sum f xs
theorem sum_append {α:Type} (f:α->Nat) (xs ys:List α):sum f (xs ++ ys)=sum f xs+sum f ys:=by
 induction xs with
 | nil=>simp [sum]
 | cons x xs ih=>simp only [List.cons_append,sum,ih];omega
def list {α:Type} (S:Shape α):Shape (List α) where
 size:=1
 reads:=fun I w cs xs => ∃ a n c,cs=[.slice a n c]/\n<=c/\c<=9223372036854775807/\Qb S I w a n xs
 fits:=fun P t=>match P.underlying t with | some (.slice e)=>P.cellsOf e == S.size && (decide (0<S.size) && S.fits P e) | _=>false
 bulk:=fun xs=>xs.length+sum S.bulk xs
 len:=by rintro _ _ _ _ ⟨_,_,_,rfl,_⟩;rfl
 keep:=by
  rintro I w w' cs d ⟨a,n,c,e,h1,h2,h3⟩ hw
  exact ⟨a,n,c,e,h1,h2,h3.keep hw⟩
 sub:=by
  rintro I J w cs d ⟨a,n,c,e,h1,h2,h3⟩ hI
  exact ⟨a,n,c,e,h1,h2,h3.sub hI⟩
 opens:=by
  intro H enc P w base spare held fuel t cs x hf h
  split at hf
  ·rename_i e ht
   simp only [Bool.and_eq_true,beq_iff_eq,decide_eq_true_eq] at hf
   obtain ⟨hc,h0,hfe⟩:=hf
   rcases Deep.open_slice ht h with ⟨rfl,_⟩ | ⟨a,len,cap,m,n,D,Pl,rfl,hb,hl,hm,hmm,_,hx⟩
   ·exact ⟨[],none,0,0,rfl,Nat.le_refl _,by omega,rfl,fun j x hx=>by simp at hx⟩
   ·have hlm:len<=m:=by rw [hmm];split <;> omega
    have hx':=fun i (hi:i<len)=>hx i (by omega)
    obtain ⟨xs,hxl,hxs⟩:=list_of (p:=fun j x => ∃ es,w.cells? base (a.add (j*P.cellsOf e)) (P.cellsOf e)=some es/\S.reads (Qf w.heap.size) w es x) len fun j hj=>by
     obtain ⟨cs',h1,h2⟩:=hx j (by omega)
     obtain ⟨d,hd⟩:=S.opens hfe h2
     exact ⟨d,cs',h1,hd⟩
    unfold maxLen at hm
    refine ⟨xs,some a,len,cap,rfl,hl,by omega,hxl,fun j x hjx => ?_⟩
    obtain ⟨es,h1,h2⟩:=hxs j x hjx
    obtain ⟨_,hel,hcell⟩:=World.cells?_some h1
    have hes:=S.len h2
    obtain ⟨b,o,spot⟩:=a
    have hc0:=hcell 0 (by omega)
    rw [List.getElem?_eq_getElem (by omega)] at hc0
    have hspot:spot=none:=by
     have hjl:j<len:=by rw [<- hxl];exact (List.getElem?_eq_some_iff.1 hjx).1
     obtain ⟨c0,k1,k2⟩:=hx' 0 (by omega)
     obtain ⟨_,kel,kcell⟩:=World.cells?_some k1
     have kc:=kcell 0 (by omega)
     rw [List.getElem?_eq_getElem (by omega)] at kc
     have:=World.cell?_spot kc
     simpa [Addr.add] using this
    subst hspot
    simp only [Addr.add_mid] at hcell hc0
    refine ⟨b,o,es,rfl,World.block_lt_of_cell? w _ hc0,fun i v hv => ?_,h2⟩
    have hi:=(List.getElem?_eq_some_iff.1 hv).1
    rw [<- hc]
    rw [hcell i (by omega)]
    exact hv
  ·cases hf
end Shape
structure FieldsOf (α:Type):Type 1 where
 size:Nat
 reads:(Nat->Prop)->World->List Value->α->Prop
 fits:Program->List Field->Nat->Bool
 bulk:α->Nat
 len : ∀ {I w cs d},reads I w cs d->cs.length=size
 keep : ∀ {I w w' cs d},reads I w cs d->Kept I w w'->reads I w' cs d
 sub : ∀ {I J:Nat->Prop} {w cs d},reads I w cs d->(∀ b,I b->J b)->reads J w cs d
 opens : ∀ {H:Type} {enc:TypeId × Value->H} {P:Program} {w:World} {base:Nat} {spare:Nat->Bool} {held:Bool} {fuel:Nat} {fs:List Field} {off:Nat} {cs:List Value},
  fits P fs off=true->cs.length=off+size->(∀ f∈fs,∃ y,DataW.trod enc P w base spare held fuel f.type ((cs.drop f.offset).take (P.cellsOf f.type))=some y) -> ∃ d,reads (Qf w.heap.size) w (cs.drop off) d
namespace FieldsOf
def last {α:Type} (S:Shape α):FieldsOf α where
 size:=S.size
 reads:=S.reads
 fits:=fun P fs off=>match fs with | [f]=>f.offset == off && (P.cellsOf f.type == S.size && S.fits P f.type) | _=>false
 bulk:=S.bulk
 len:=S.len
 keep:=S.keep
 sub:=S.sub
 opens:=by
  intro H enc P w base spare held fuel fs off cs hf hl h
  split at hf
  ·rename_i f
   simp only [Bool.and_eq_true,beq_iff_eq] at hf
   obtain ⟨h1,h2,h3⟩:=hf
   obtain ⟨y,hy⟩:=h f (by simp)
   obtain ⟨d,hd⟩:=S.opens h3 hy
   rw [h1,h2,List.take_of_length_le (by simp;omega)] at hd
   exact ⟨d,hd⟩
  ·cases hf
def cons {α β:Type} (S:Shape α) (F:FieldsOf β):FieldsOf (α × β) where
 size:=S.size+F.size
 reads:=fun I w cs d => ∃ c1 c2,cs=c1 ++ c2/\S.reads I w c1 d.1/\F.reads I w c2 d.2
 fits:=fun P fs off=>match fs with | f::r=>f.offset == off && (P.cellsOf f.type == S.size && (S.fits P f.type && F.fits P r (off+S.size))) | _=>false
 bulk:=fun d=>S.bulk d.1+F.bulk d.2
 len:=by
  rintro B w cs d ⟨c1,c2,rfl,h1,h2⟩
  rw [List.length_append,S.len h1,F.len h2]
 keep:=by
  rintro I w w' cs d ⟨c1,c2,e,h1,h2⟩ hw
  exact ⟨c1,c2,e,S.keep h1 hw,F.keep h2 hw⟩
 sub:=by
  rintro I J w cs d ⟨c1,c2,e,h1,h2⟩ hI
  exact ⟨c1,c2,e,S.sub h1 hI,F.sub h2 hI⟩
 opens:=by
  intro H enc P w base spare held fuel fs off cs hf hl h
  split at hf
  ·rename_i f r
   simp only [Bool.and_eq_true,beq_iff_eq] at hf
   obtain ⟨h1,h2,h3,h4⟩:=hf
   obtain ⟨y,hy⟩:=h f (by simp)
   obtain ⟨d,hd⟩:=S.opens h3 hy
   obtain ⟨d',hd'⟩:=F.opens h4 (cs:=cs) (by omega) (fun g hg=>h g (List.mem_cons_of_mem _ hg))
   rw [h1,h2] at hd
   refine ⟨(d,d'),_,_,?_,hd,hd'⟩
   rw [<- List.drop_drop,List.take_append_drop]
  ·cases hf
end FieldsOf
namespace Shape
def struct {α:Type} (F:FieldsOf α):Shape α where
 size:=F.size
 reads:=F.reads
 fits:=fun P t=>match P.underlying t with | some (.struct fs)=>P.cellsOf t == F.size && F.fits P fs.toList 0 | _=>false
 bulk:=F.bulk
 len:=F.len
 keep:=F.keep
 sub:=F.sub
 opens:=by
  intro H enc P w base spare held fuel t cs x hf h
  split at hf
  ·rename_i fs ht
   simp only [Bool.and_eq_true,beq_iff_eq] at hf
   obtain ⟨xs,n,hn,_,hl,hxl,hx⟩:=DataW.trod_struct ht h
   have:=F.opens hf.2 (cs:=cs) (w:=w) (enc:=enc) (base:=base) (spare:=spare) (held:=held) (fuel:=n) (by omega) (fun f hfm=>by
    obtain ⟨i,hi⟩:=List.mem_iff_getElem?.1 hfm
    have hi':fs[i]? = some f:=by simpa using hi
    have hlt:i<fs.size:=by
     have:=(Array.getElem?_eq_some_iff.1 hi').1
     exact this
    rw [hx i f hi',List.getElem?_eq_getElem (by omega)]
    exact ⟨_,rfl⟩)
   simpa using this
  ·cases hf
end Shape
theorem Qb.ints {B:Nat} {w:World} {a:Option Addr} {n:Nat} {xs:List Int} (h:Qb Shape.int (Qf B) w a n xs) (hr:n<=1048576):IntsIn B w a n xs:=
 ⟨h.1,hr,fun j hj=>by
  have hx:xs[j]? = some (xs.getD j 0):=by
   rw [List.getElem?_eq_getElem (by rw [h.1];exact hj)]
   simp [List.getD,h.1,hj]
  obtain ⟨b,o,es,e,hb,hr,hs⟩:=h.2 j _ hx
  have hs':es=[.int .i64 (xs.getD j 0)]:=hs
  subst hs'
  refine ⟨b,o,e,hb,?_⟩
  have:=hr 0 _ rfl
  simpa [Shape.int] using this⟩
end Go.Proofs.YtcooobnaocbdjaaGreatDoor

end

/-! YtcooobnaocbdjaaGreatDoorPFill -/
section
set_option linter.unusedVariables false
namespace Go.Proofs.YtcooobnaocbdjaaGreatDoor
open Go.RowKit
theorem Jg {P:Program} (t e:TypeId) (z:Value) (size bytes:Nat) (ht:P.underlying t=some (.slice e)) (hinfo:(P.info? e).map (fun i=>(i.zero,i.size,i.bytes))=some (some z,size,bytes))
  (n:Nat) (hbytes:bytes*n<=281474976710656) (h63:n<=9223372036854775807) (w:World) :
  (Instr.makeSlice t (.int .i64 (n:Int)) (.int .i64 (n:Int))).run P w = .ok (.slice (some ⟨w.heap.size,0,none⟩) n n) (w.alloc (.cells (madeCells z.cells (n*size)) e)):=by
 obtain ⟨i,hi,hzz⟩:=Option.map_eq_some_iff.1 hinfo
 simp only [Prod.mk.injEq] at hzz
 obtain ⟨hz,hs,hb⟩:=hzz
 have hb':(i.bytes:Int)*(n:Int)<=281474976710656:=by
  have h:((i.bytes*n:Nat):Int)<=281474976710656:=by rw [hb];omega
  rwa [Int.natCast_mul] at h
 have hr:=run_make (P:=P) w t e i z ht hi hz .i64 .i64 n n (by omega) (Int.le_refl _) hb' (by omega)
 simp only [Int.toNat_natCast,hs] at hr
 exact hr
theorem Jw {B:Nat} {w w':World} {b o n:Nat} (h:w.there b o n) (hw:Below B w w') (hb:b<B):w'.there b o n:=fun j hj=>by
 have h0:=h j hj
 rw [hw.cell (p:=⟨b,o+j,none⟩) hb,hw.frozen (p:=⟨b,o+j,none⟩) hb]
 exact h0
theorem J1 {w:World} {b o n o' n':Nat} (h:w.there b o n) (h0:o<=o') (h1:o'+n'<=o+n):w.there b o' n':=fun j hj=>by
 have:=h (o'+j-o) (by omega)
 rwa [show o+(o'+j-o)=o'+j by omega] at this
theorem Zl {w:World} {b o n:Nat} (h:w.there b o n) (j:Nat) (hj:j<n):(∃ v,w.cell? ⟨b,o+j,none⟩=some v)/\w.frozen? ⟨b,o+j,none⟩=false:=by
 obtain ⟨h0,h1⟩:=h j hj
 exact ⟨Option.isSome_iff_exists.1 h0,h1⟩
structure Filled {α:Type} (S:Shape α) (w wr:World) (n k:Nat) (xs:List α):Prop where
 below:Below w.heap.size w wr
 lt:w.heap.size<wr.heap.size
 done : ∀ j x,j<k->xs[j]? = some x -> ∃ es,wr.rangeAt w.heap.size (j*S.size) es/\S.reads (From (w.heap.size+1) wr.heap.size) wr es x
 rest:wr.there w.heap.size (k*S.size) ((n-k)*S.size)
theorem Filled.start {α:Type} (S:Shape α) (w:World) (n:Nat) (xs:List α) (z:Array Value) (e:TypeId):Filled S w (w.alloc (.cells (madeCells z (n*S.size)) e)) n 0 xs where
 below:=(Below.refl _ _).alloc (Nat.le_refl _) _
 lt:=by simp
 done:=fun j x hj=>absurd hj (Nat.not_lt_zero _)
 rest:=fun j hj=>by
  have hj':j<n*S.size:=by simpa using hj
  have hb:=heap_alloc_new w (.cells (madeCells z (n*S.size)) e)
  constructor
  ·rw [cell_of_row _ _ _ _ _ _ hb]
   have:0*S.size+j<(madeCells z (n*S.size)).size:=by rw [size_madeCells];omega
   rw [Array.getElem?_eq_getElem this]
   rfl
  ·exact frozen_of_row _ _ _ _ _ hb
theorem Jh (g:Nat) : ∀ (cs:List Value) (o:Nat) (w:World) (b:Nat),b≠g->(w.setCells g o cs).heap[b]? = w.heap[b]?
 | [],_,_,_,_=>rfl
 | v::vs,o,w,b,hb=>by rw [World.setCells,Jh g vs (o+1) _ b hb];exact Below.heap_setCell _ _ _ _ hb
theorem Qal {B:Nat} {a:World} (g:Nat) (hB:B<=g) : ∀ (cs:List Value) (o:Nat) (w:World),Below B a w->Below B a (w.setCells g o cs)
 | [],_,_,h=>h
 | v::vs,o,w,h=>Qal g hB vs (o+1) _ (h.setCell (p:=⟨g,o,none⟩) hB v)
theorem J2 (g:Nat) : ∀ (cs:List Value) (o:Nat) (w:World),(w.setCells g o cs).heap.size=w.heap.size
 | [],_,_=>rfl
 | v::vs,o,w=>by rw [World.setCells,J2 g vs (o+1)];simp
theorem Filled.step {α:Type} {S:Shape α} {w wr w1:World} {n k:Nat} {xs:List α} {es:List Value} {x:α} (h:Filled S w wr n k xs) (hk:k<n) (hb:Below wr.heap.size wr w1) (hx:xs[k]? = some x)
  (hs:S.reads (From wr.heap.size w1.heap.size) w1 es x):Filled S w (w1.setCells w.heap.size (k*S.size) es) n (k+1) xs:=by
 have hl:=S.len hs
 have hlt:=h.lt
 have hsz:=hb.size
 have hmul:(n-k)*S.size=(n-(k+1))*S.size+S.size:=by rw [show n-k=(n-(k+1))+1 by omega,Nat.add_mul,Nat.one_mul]
 have hk1:(k+1)*S.size=k*S.size+S.size:=by rw [Nat.add_mul,Nat.one_mul]
 have hth:w1.there w.heap.size (k*S.size) ((n-k)*S.size):=Jw h.rest hb hlt
 have hss:=J2 w.heap.size es (k*S.size) w1
 refine ⟨Qal _ (Nat.le_refl _) _ _ _ (h.below.trans (hb.mono (Nat.le_of_lt hlt))),by omega,fun j y hj hy => ?_,?_⟩
 ·by_cases hjk:j<k
  ·obtain ⟨es',hr,hs'⟩:=h.done j y hjk hy
   have hjl:j*S.size+S.size<=k*S.size:=by
    have:=Nat.mul_le_mul_right S.size (show j+1<=k by omega)
    rwa [Nat.add_mul,Nat.one_mul] at this
   refine ⟨es',World.rangeAt_setCells_apart (fun i v hv=>(hb.cell (p:=⟨w.heap.size,j*S.size+i,none⟩) hlt).trans (hr i v hv)) _ _ _ (.inr (.inl (by rw [S.len hs'];exact hjl))),?_⟩
   refine S.sub (S.keep hs' fun b hb' => ?_) fun b hb'=>⟨hb'.1,by rw [hss];exact Nat.lt_of_lt_of_le hb'.2 hsz⟩
   rw [Jh _ _ _ _ _ (by have:=hb'.1;omega)]
   exact hb.block b hb'.2
  ·obtain rfl:j=k:=by omega
   rw [hx] at hy
   cases hy
   refine ⟨es,World.rangeAt_setCells_same _ _ _ _ (J1 hth (Nat.le_refl _) (by omega)),?_⟩
   refine S.sub (S.keep hs fun b hb' => ?_) fun b hb'=>⟨by have:=hb'.1;omega,by rw [hss];exact hb'.2⟩
   exact Jh _ _ _ _ _ (by have:=hb'.1;omega)
 ·exact World.there_setCells (J1 hth (by omega) (by omega)) _ _ _
theorem Filled.list {α:Type} {S:Shape α} {w wr:World} {n:Nat} {xs:List α} (h:Filled S w wr n n xs) (hl:xs.length=n):Qb S (From w.heap.size wr.heap.size) wr (some ⟨w.heap.size,0,none⟩) n xs:=
 ⟨hl,fun j x hx=>by
  obtain ⟨es,hr,hs⟩:=h.done j x (by rw [<- hl];exact (List.getElem?_eq_some_iff.1 hx).1) hx
  exact ⟨w.heap.size,0,es,rfl,⟨Nat.le_refl _,h.lt⟩,by rwa [Nat.zero_add],S.sub hs fun b hb=>⟨by have:=hb.1;omega,hb.2⟩⟩⟩
def szN (b:Nat) (L:Int):Int:=if (b:Int)<=L then L-b else -1
theorem Zm {b:Nat} {L:Int} (h:(b:Int)<=L):szN b L=L-b:=if_pos h
theorem Zg {b:Nat} {L:Int} (h : ¬ (b:Int)<=L):szN b L = -1:=if_neg h
theorem Qo4 {α:Type} (xs:List α):Shape.sum (fun _=>0) xs=0:=by
 induction xs with
 | nil=>rfl
 | cons x xs ih=>simp [Shape.sum,ih]
theorem Ql (xs:List Int):(Shape.list Shape.int).bulk xs=xs.length:=by
 show xs.length+Shape.sum (fun _=>0) xs=xs.length
 rw [Qo4]
 rfl
theorem J8 {α:Type} (f:α->Nat) (xs:List α) (k:Nat) (x:α) (h:xs[k]? = some x):Shape.sum f (xs.take (k+1))=Shape.sum f (xs.take k)+f x:=by
 rw [List.take_add_one,h,Shape.sum_append]
 simp [Shape.sum]
theorem Zu {α:Type} (f:α->Nat) (xs:List α) (k:Nat):Shape.sum f (xs.take k)<=Shape.sum f xs:=by
 have:=Shape.sum_append f (xs.take k) (xs.drop k)
 rw [List.take_append_drop] at this
 omega
theorem Qz {α:Type} (f:α->Nat) (xs:List α) (k:Nat) (x:α) (h:xs[k]? = some x):f x<=Shape.sum f xs:=by
 have h1:=J8 f xs k x h
 have h2:=Zu f xs (k+1)
 omega
theorem Qh {α:Type} (S:Shape α) {I:Nat->Prop} {w:World} {a:Option Addr} {n:Nat} {xs:List α} (h:Qb S I w a n xs):(Shape.list S).bulk xs=n+Shape.sum S.bulk xs:=by
 rw [<- h.1]
 rfl
structure Boxes (w wr:World) (A Z O:Array Value) (TA T:TypeId):Prop where
 below:Below w.heap.size w wr
 size:w.heap.size+3<=wr.heap.size
 a:wr.heap[w.heap.size]? = some (.cells A TA (0,0))
 z:wr.heap[w.heap.size+1]? = some (.cells Z T (0,0))
 o:wr.heap[w.heap.size+1+1]? = some (.cells O T (0,0))
theorem Boxes.start (w:World) (A Z O:Array Value) (TA T:TypeId):Boxes w (((w.alloc (.cells A TA (0,0))).alloc (.cells Z T (0,0))).alloc (.cells O T (0,0))) A Z O TA T where
 below:=(((Below.refl _ _).alloc (Nat.le_refl _) _).alloc (by simp) _).alloc (by simp;omega) _
 size:=by simp
 a:=by
  rw [Below.heap_alloc _ _ _ (by simp;omega),Below.heap_alloc _ _ _ (by simp)]
  exact heap_alloc_new w _
 z:=by
  rw [Below.heap_alloc _ _ _ (by simp)]
  have:=heap_alloc_new (w.alloc (.cells A TA (0,0))) (.cells Z T (0,0))
  simpa using this
 o:=by
  have:=heap_alloc_new ((w.alloc (.cells A TA (0,0))).alloc (.cells Z T (0,0))) (.cells O T (0,0))
  simpa using this
theorem Boxes.call {w wr w1:World} {A Z O:Array Value} {TA T:TypeId} (h:Boxes w wr A Z O TA T) (hb:Below wr.heap.size wr w1):Boxes w w1 A Z O TA T:=by
 have hs:=h.size
 exact ⟨h.below.trans (hb.mono (by omega)),Nat.le_trans hs hb.size,(hb.block _ (by omega)).trans h.a,(hb.block _ (by omega)).trans h.z,(hb.block _ (by omega)).trans h.o⟩
theorem Boxes.store {w wr:World} {A Z O:Array Value} {TA T:TypeId} (h:Boxes w wr A Z O TA T) (i:Nat) (v:Value):Boxes w (wr.setCell ⟨w.heap.size+1+1,i,none⟩ v) A Z (O.setIfInBounds i v) TA T:=
 ⟨h.below.setCell (p:=⟨w.heap.size+1+1,i,none⟩) (by show w.heap.size<=w.heap.size+1+1;omega) v,by have:=h.size;simpa using this,
  (heap_setCell_other _ _ _ _ (by show w.heap.size≠w.heap.size+1+1;omega)).trans h.a,(heap_setCell_other _ _ _ _ (by show w.heap.size+1≠w.heap.size+1+1;omega)).trans h.z,
  heap_setCell_same wr _ i O T v h.o⟩
theorem Qbq (g:Nat) (T:TypeId) : ∀ (vs pre old:List Value) (w:World),old.length=vs.length->w.heap[g]? = some (.cells (pre ++ old).toArray T (0,0))->(w.setCells g pre.length vs).heap[g]? = some (.cells (pre ++ vs).toArray T (0,0))
 | [],pre,old,w,hl,h=>by
  obtain rfl:old=[]:=List.eq_nil_of_length_eq_zero hl
  exact h
 | v::vs,pre,[],w,hl,h=>by simp at hl
 | v::vs,pre,u::us,w,hl,h=>by
  have h1:=heap_setCell_same w g pre.length _ T v h
  have h2:=Qbq g T vs (pre ++ [v]) us (w.setCell ⟨g,pre.length,none⟩ v) (by simpa using hl) (by
   rw [h1]
   simp)
  rw [List.length_append,List.length_singleton] at h2
  rw [World.setCells,h2]
  simp
theorem Boxes.result {w wr:World} {A Z O:Array Value} {TA T:TypeId} (h:Boxes w wr A Z O TA T) (vs:List Value) (hl:Z.size=vs.length):(wr.setCells (w.heap.size+1) 0 vs).heap[w.heap.size+1]? = some (.cells vs.toArray T (0,0)):=by
 have:=Qbq (w.heap.size+1) T vs [] Z.toList wr (by simpa using hl) (by simpa using h.z)
 simpa using this
theorem Boxes.last {w wr:World} {A Z O:Array Value} {TA T:TypeId} (h:Boxes w wr A Z O TA T) (vs:List Value):Below w.heap.size w (wr.setCells (w.heap.size+1) 0 vs):=Qal _ (by omega) _ _ _ h.below
theorem Qb.called {α:Type} {S:Shape α} {lo:Nat} {wr w1:World} {a:Option Addr} {n:Nat} {xs:List α} (h:Qb S (From lo wr.heap.size) wr a n xs) (hb:Below wr.heap.size wr w1):Qb S (From lo w1.heap.size) w1 a n xs:=
 (h.keep (fun b hb'=>hb.block b hb'.2)).sub fun b hb'=>⟨hb'.1,Nat.lt_of_lt_of_le hb'.2 hb.size⟩
theorem Qb.stored {α:Type} {S:Shape α} {lo:Nat} {wr:World} {a:Option Addr} {n:Nat} {xs:List α} (h:Qb S (From lo wr.heap.size) wr a n xs) (g i:Nat) (v:Value) (hg:g<lo):Qb S (From lo (wr.setCell ⟨g,i,none⟩ v).heap.size) (wr.setCell ⟨g,i,none⟩ v) a n xs:=by
 rw [show (wr.setCell ⟨g,i,none⟩ v).heap.size=wr.heap.size by simp]
 exact h.keep fun b hb'=>heap_setCell_other _ _ _ _ (by have:=hb'.1;show b≠g;omega)
theorem Qb.storedAll {α:Type} {S:Shape α} {lo:Nat} {wr:World} {a:Option Addr} {n:Nat} {xs:List α} (h:Qb S (From lo wr.heap.size) wr a n xs) (g i:Nat) (vs:List Value) (hg:g<lo):Qb S (From lo (wr.setCells g i vs).heap.size) (wr.setCells g i vs) a n xs:=by
 rw [J2]
 exact h.keep fun b hb'=>Jh _ _ _ _ _ (by have:=hb'.1;omega)
theorem Qb.lo {α:Type} {S:Shape α} {lo lo' hi:Nat} {w:World} {a:Option Addr} {n:Nat} {xs:List α} (h:Qb S (From lo hi) w a n xs) (hl:lo'<=lo):Qb S (From lo' hi) w a n xs:=h.sub fun b hb=>⟨Nat.le_trans hl hb.1,hb.2⟩
theorem Qb.under {α:Type} {S:Shape α} {lo hi:Nat} {w:World} {a:Option Addr} {n:Nat} {xs:List α} (h:Qb S (From lo hi) w a n xs):Qb S (Qf hi) w a n xs:=h.sub fun b hb=>hb.2
theorem Shape.under {α:Type} (S:Shape α) {lo hi:Nat} {w:World} {cs:List Value} {d:α} (h:S.reads (From lo hi) w cs d):S.reads (Qf hi) w cs d:=S.sub h fun b hb=>hb.2
end Go.Proofs.YtcooobnaocbdjaaGreatDoor

end

/-! YtcooobnaocbdjaaGreatDoorPSat -/
section
namespace Go.Proofs.YtcooobnaocbdjaaGreatDoor
def sat (x:Int):Int:=if 2147483647<x then 2147483647 else if x < -2147483647 then -2147483647 else x
def satB (x:Int):Bool:=decide (2147483647<x\/x < -2147483647)
theorem Qp6 {x:Int} (h:2147483647<x):sat x=2147483647/\satB x=true:=by simp [sat,satB,h]
theorem Qp7 {x:Int} (h:x < -2147483647):sat x = -2147483647/\satB x=true:=by
 have h' : ¬ 2147483647<x:=by omega
 simp [sat,satB,h,h']
theorem Qnc {x:Int} (h0 : -2147483647<=x) (h1:x<=2147483647):sat x=x/\satB x=false:=by
 have h' : ¬ 2147483647<x:=by omega
 have h'' : ¬ x < -2147483647:=by omega
 simp [sat,satB,h',h'']
theorem Zo (x:Int) : -2147483647<=sat x/\sat x<=2147483647:=by
 unfold sat
 split
 ·omega
 ·split <;> omega
theorem Qih {a b:Int} (ha0 : -2147483647<=a) (ha1:a<=2147483647) (hb0 : -2147483647<=b) (hb1:b<=2147483647) : -4611686014132420609<=a*b/\a*b<=4611686014132420609:=by
 have h:(a*b).natAbs<=2147483647*2147483647:=by
  rw [Int.natAbs_mul]
  exact Nat.mul_le_mul (by omega) (by omega)
 omega
def inB (lo hi x:Int):Bool:=decide (lo<=x/\x<=hi)
theorem Qbh {lo hi x:Int} (h0:lo<=x) (h1:x<=hi):inB lo hi x=true:=decide_eq_true ⟨h0,h1⟩
theorem Qcz {lo hi x:Int} (h:x<lo\/hi<x):inB lo hi x=false:=decide_eq_false (by omega)
theorem Qha {x:Int} (h:x<0):x.tdiv 65536 = -((-x) / 65536):=by
 have e:x = -(-x):=by omega
 have:(-(-x)).tdiv 65536 = -((-x) / 65536):=by rw [Int.neg_tdiv,Int.tdiv_eq_ediv_of_nonneg (by omega)]
 rwa [<- e] at this
theorem Qnd {x:Int} (h:x<0):x.tmod 65536 = -((-x) % 65536):=by
 have e:x = -(-x):=by omega
 have:(-(-x)).tmod 65536 = -((-x) % 65536):=by rw [Int.neg_tmod,Int.tmod_eq_emod_of_nonneg (by omega)]
 rwa [<- e] at this
theorem Qo5 {x:Int} (hx:x<0) (h:x.tmod 65536=0):x.tdiv 65536=x / 65536:=by
 rw [Qnd hx] at h
 rw [Qha hx]
 omega
theorem Qo6 {x:Int} (hx:x<0) (h : ¬ x.tmod 65536=0):x.tdiv 65536-1=x / 65536:=by
 rw [Qnd hx] at h
 rw [Qha hx]
 omega
def addN (a b:Int):Int:=sat (sat a+sat b)
def addB (a b:Int):Bool:=satB (sat a+sat b)
def subN (a b:Int):Int:=sat (sat a-sat b)
def subB (a b:Int):Bool:=satB (sat a-sat b)
def mulN (a b:Int):Int:=sat (sat a*sat b / 65536)
def mulB (a b:Int):Bool:=satB (sat a*sat b / 65536)
end Go.Proofs.YtcooobnaocbdjaaGreatDoor

end

/-! YtcooobnaocbdjaaGreatDoorPFix -/
section
set_option linter.unusedVariables false
namespace Go.Proofs.YtcooobnaocbdjaaGreatDoor
open Go.RowKit
theorem Qe2 {a b:Int} (h:a=b):Ending.returned (.int .i64 a) = .returned (.int .i64 b):=by rw [h]
theorem Qe3 (x:Int) (w:World) (h0 : -2147483647<=x) (h1:x<=2147483647) :
  Calls Tryz.prog 282 #[.int .i64 x] w fun e w'=>e = .returned .nilIface/\w=w':=by
 go_enter Tryz.func282,Tryz.ntmps282
 go_wp2
 go_ret
 exact ⟨rfl,rfl⟩
theorem Qgm (x:Int) (w:World) (h0:2147483647<x) :
  Calls Tryz.prog 282 #[.int .i64 x] w fun e w'=>e = .returned (.iface 316 (.agg #[.int .i64 2147483647]))/\w=w':=by
 go_enter Tryz.func282,Tryz.ntmps282
 go_wp2
 go_ret
 exact ⟨rfl,rfl⟩
theorem Qgn (x:Int) (w:World) (h0:x < -2147483647) :
  Calls Tryz.prog 282 #[.int .i64 x] w fun e w'=>e = .returned (.iface 316 (.agg #[.int .i64 (-2147483647)]))/\w=w':=by
 go_enter Tryz.func282,Tryz.ntmps282
 go_wp2
 go_ret
 exact ⟨rfl,rfl⟩
theorem Qp8 (n:Int) (w:World) (hg:Z0 w) :
  Calls Tryz.prog 283 #[.iface 316 (.agg #[.int .i64 n]),.iface 318 (.pointer (some ⟨w.heap.size,0,none⟩))] (w.alloc (.cells #[.int .i64 0] 316)) fun e w'=>e = .returned (.bool true)/\w'.cell? ⟨w.heap.size,0,none⟩=some (.int .i64 n)/\Below w.heap.size w w':=by
 have hg':Z0 (w.alloc (.cells #[.int .i64 0] 316)):=hg.below hg.lt ((Below.refl _ _).alloc (Nat.le_refl _) _)
 refine (Qri n ⟨w.heap.size,0,none⟩ (.int .i64 0) _ hg' (by simp) (by simp)).mono fun e w' ⟨he,hw⟩=>⟨he,?_,?_⟩
 ·rw [hw]
  refine World.cell?_setCell_same _ _ _ (u:= .int .i64 0) ?_
  rw [World.cell?_alloc_lt _ _ ⟨w.heap.size,0,none⟩ (by simp;omega),World.cell?_alloc_lt _ _ ⟨w.heap.size,0,none⟩ (by simp;omega),World.cell?_alloc_lt _ _ ⟨w.heap.size,0,none⟩ (by simp;omega),World.cell?_alloc_lt _ _ ⟨w.heap.size,0,none⟩ (by simp)]
  simp
 ·rw [hw]
  exact ((((((Below.refl _ _).alloc (Nat.le_refl _) _).alloc (by simp) _).alloc (by simp;omega) _).alloc (by simp;omega) _).alloc (by simp;omega) _).setCell (Nat.le_refl _) _
theorem Qav (x:Int) (w:World) (hg:Z0 w) :
  Calls Tryz.prog 230 #[.int .i64 x] w fun e w'=>e = .returned (.tuple #[.int .i64 (sat x),.bool (satB x)])/\Below w.heap.size w w':=by
 have HG:=Lib.hid hg
 clear hg
 by_cases h1:2147483647<x
 ·have HS:=Lib.hid (Qp6 h1)
  go_enter Tryz.func230,Tryz.ntmps230
  go_wp2_with fail
  refine (Qgm x _ h1).mono ?_
  rintro e w' ⟨rfl,rfl⟩
  go_wp2_with fail
  refine (Qp8 2147483647 _ HG.out).mono ?_
  rintro e w1 ⟨rfl,hc,hb⟩
  go_wp2_with fail
  go_ret2
  exact ⟨by rw [HS.out.1,HS.out.2] <;> rfl,hb⟩
 ·by_cases h2:x < -2147483647
  ·have HS:=Lib.hid (Qp7 h2)
   go_enter Tryz.func230,Tryz.ntmps230
   go_wp2_with fail
   refine (Qgn x _ h2).mono ?_
   rintro e w' ⟨rfl,rfl⟩
   go_wp2_with fail
   refine (Qp8 (-2147483647) _ HG.out).mono ?_
   rintro e w1 ⟨rfl,hc,hb⟩
   go_wp2_with fail
   go_ret2
   exact ⟨by rw [HS.out.1,HS.out.2] <;> rfl,hb⟩
  ·have g1 : -2147483647<=x:=by omega
   have g2:x<=2147483647:=by omega
   have HS:=Lib.hid (Qnc g1 g2)
   clear h1 h2
   go_enter Tryz.func230,Tryz.ntmps230
   go_wp2_with fail
   refine (Qe3 x _ g1 g2).mono ?_
   rintro e w' ⟨rfl,rfl⟩
   go_wp2_with fail
   go_ret2
   exact ⟨by rw [HS.out.1,HS.out.2] <;> rfl,Below.refl _ _⟩
theorem Jy (x:Int) (w:World) (hg:Z0 w) :
  Calls Tryz.prog 231 #[.int .i64 x] w fun e w'=>e = .returned (.int .i64 (sat x))/\Below w.heap.size w w':=by
 have HG:=Lib.hid hg
 clear hg
 go_enter Tryz.func231,Tryz.ntmps231
 go_wp2_with fail
 refine (Qav x _ HG.out).mono ?_
 rintro e w1 ⟨rfl,hb⟩
 go_wp2_with fail
 go_ret
 exact ⟨rfl,hb⟩
theorem Qam (a b:Int) (w:World) (hg:Z0 w) :
  Calls Tryz.prog 145 #[.int .i64 a,.int .i64 b] w fun e w'=>e = .returned (.tuple #[.int .i64 (addN a b),.bool (addB a b)])/\Below w.heap.size w w':=by
 have HG:=Lib.hid hg
 have hlt:=hg.lt
 clear hg
 obtain ⟨a0,a1⟩:=Zo a
 obtain ⟨b0,b1⟩:=Zo b
 go_enter Tryz.func145,Tryz.ntmps145
 go_wp2_with fail
 refine (Jy a _ HG.out).mono ?_
 rintro e w1 ⟨rfl,hb1⟩
 go_wp2_with fail
 refine (Jy b _ (HG.out.below hlt hb1)).mono ?_
 rintro e w2 ⟨rfl,hb2⟩
 have hb12:=hb1.trans (hb2.mono hb1.size)
 go_wp2_with fail
 refine (Qav (sat a+sat b) _ (HG.out.below hlt hb12)).mono ?_
 rintro e w3 ⟨rfl,hb3⟩
 go_wp2_with fail
 go_ret2
 exact ⟨rfl,hb12.trans (hb3.mono hb12.size)⟩
theorem Qfy (a b:Int) (w:World) (hg:Z0 w) :
  Calls Tryz.prog 238 #[.int .i64 a,.int .i64 b] w fun e w'=>e = .returned (.tuple #[.int .i64 (subN a b),.bool (subB a b)])/\Below w.heap.size w w':=by
 have HG:=Lib.hid hg
 have hlt:=hg.lt
 clear hg
 obtain ⟨a0,a1⟩:=Zo a
 obtain ⟨b0,b1⟩:=Zo b
 go_enter Tryz.func238,Tryz.ntmps238
 go_wp2_with fail
 refine (Jy a _ HG.out).mono ?_
 rintro e w1 ⟨rfl,hb1⟩
 go_wp2_with fail
 refine (Jy b _ (HG.out.below hlt hb1)).mono ?_
 rintro e w2 ⟨rfl,hb2⟩
 have hb12:=hb1.trans (hb2.mono hb1.size)
 go_wp2_with fail
 refine (Qav (sat a-sat b) _ (HG.out.below hlt hb12)).mono ?_
 rintro e w3 ⟨rfl,hb3⟩
 go_wp2_with fail
 go_ret2
 exact ⟨rfl,hb12.trans (hb3.mono hb12.size)⟩
theorem Qc0 (a b:Int) (w:World) (hg:Z0 w) :
  Calls Tryz.prog 281 #[.int .i64 a,.int .i64 b] w fun e w'=>e = .returned (.tuple #[.int .i64 (mulN a b),.bool (mulB a b)])/\Below w.heap.size w w':=by
 have HG:=Lib.hid hg
 have hlt:=hg.lt
 clear hg
 obtain ⟨a0,a1⟩:=Zo a
 obtain ⟨b0,b1⟩:=Zo b
 obtain ⟨m0,m1⟩:=Qih a0 a1 b0 b1
 go_enter Tryz.func281,Tryz.ntmps281
 go_wp2_with fail
 refine (Jy a _ HG.out).mono ?_
 rintro e w1 ⟨rfl,hb1⟩
 go_wp2_with fail
 refine (Jy b _ (HG.out.below hlt hb1)).mono ?_
 rintro e w2 ⟨rfl,hb2⟩
 have hb12:=hb1.trans (hb2.mono hb1.size)
 go_wp2_with fail
 refine (Qav (sat a*sat b / 65536) _ (HG.out.below hlt hb12)).mono ?_
 rintro e w3 ⟨rfl,hb3⟩
 go_wp2_with fail
 go_ret2
 exact ⟨rfl,hb12.trans (hb3.mono hb12.size)⟩
def Qaq (a:Int):Int:=if 0<sat a then sat a else 0
theorem Qii (a:Int) (w:World) (hg:Z0 w) :
  Calls Tryz.prog 361 #[.int .i64 a] w fun e w'=>e = .returned (.int .i64 (Qaq a))/\Below w.heap.size w w':=by
 have HG:=Lib.hid hg
 clear hg
 obtain ⟨a0,a1⟩:=Zo a
 by_cases h:0<sat a
 ·have HR:Hid (Qaq a=sat a):=Lib.hid (if_pos h)
  go_enter Tryz.func361,Tryz.ntmps361
  go_wp2_with fail
  refine (Jy a _ HG.out).mono ?_
  rintro e w1 ⟨rfl,hb1⟩
  go_wp2_with fail
  go_ret
  exact ⟨by rw [HR.out] <;> rfl,hb1⟩
 ·have HR:Hid (Qaq a=0):=Lib.hid (if_neg h)
  go_enter Tryz.func361,Tryz.ntmps361
  go_wp2_with fail
  refine (Jy a _ HG.out).mono ?_
  rintro e w1 ⟨rfl,hb1⟩
  go_wp2_with fail
  all_goals (go_ret;exact ⟨Qe2 (by rw [HR.out] <;> omega),hb1⟩)
def okB (x:Int):Bool:=inB (-2147483647) 2147483647 x
theorem Qne {x:Int} (h0 : -2147483647<=x) (h1:x<=2147483647):okB x=true:=Qbh h0 h1
theorem Qp9 {x:Int} (h:x < -2147483647\/2147483647<x):okB x=false:=Qcz h
theorem Qdh (x:Int) (w:World) :
  Calls Tryz.prog 277 #[.int .i64 x] w fun e w'=>e = .returned (.bool (okB x))/\w=w':=by
 by_cases h1:2147483647<x
 ·have HS:=Lib.hid (Qp9 (Or.inr h1))
  go_enter Tryz.func277,Tryz.ntmps277
  go_wp2_with fail
  refine (Qgm x _ h1).mono ?_
  rintro e w' ⟨rfl,rfl⟩
  go_wp2_with fail
  go_ret
  exact ⟨by rw [HS.out] <;> rfl,rfl⟩
 ·by_cases h2:x < -2147483647
  ·have HS:=Lib.hid (Qp9 (Or.inl h2))
   go_enter Tryz.func277,Tryz.ntmps277
   go_wp2_with fail
   refine (Qgn x _ h2).mono ?_
   rintro e w' ⟨rfl,rfl⟩
   go_wp2_with fail
   go_ret
   exact ⟨by rw [HS.out] <;> rfl,rfl⟩
  ·have g1 : -2147483647<=x:=by omega
   have g2:x<=2147483647:=by omega
   have HS:=Lib.hid (Qne g1 g2)
   clear h1 h2
   go_enter Tryz.func277,Tryz.ntmps277
   go_wp2_with fail
   refine (Qe3 x _ g1 g2).mono ?_
   rintro e w' ⟨rfl,rfl⟩
   go_wp2_with fail
   go_ret
   exact ⟨by rw [HS.out] <;> rfl,rfl⟩
end Go.Proofs.YtcooobnaocbdjaaGreatDoor

end
