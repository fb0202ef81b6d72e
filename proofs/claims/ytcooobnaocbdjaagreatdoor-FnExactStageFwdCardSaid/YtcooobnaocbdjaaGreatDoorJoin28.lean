import Derived.OrdersHeld
namespace Go.Proofs.YtcooobnaocbdjaaGreatDoor
open Go
section
variable {P:Program} {ops:Array Oper} {Q:Exit->Act->World->Prop} {md:Region.Mode} {S:World->Prop}
def Qjh (md:Region.Mode) (ops:Array Oper) (j:Nat):Prop:= ∃ oj,ops[j]? = some oj /\ ∀ i,i<ops.size->i≠j -> ∃ e∈oj.after,Region.binds md e=true/\e.on=i
def AnyK (P:Program) (md:Region.Mode) (ops:Array Oper) (Q:Exit->Act->World->Prop) (S:World->Prop):Nat->Array Bool->Act->World->Prop
 | 0,listed,a,w=>Region.ready md ops listed=[]/\Q .normal a w
 | fuel+1,listed,a,w=>(Region.ready md ops listed=[]->Q .normal a w) /\
  ∀ i∈Region.ready md ops listed,wpOp P ops Q i (fun a' w'=>(Qjh md ops i\/S w')/\AnyK P md ops Q S fuel (listed.setIfInBounds i true) a' w') a w
theorem Qli : ∀ (fuel:Nat) (listed:Array Bool) (a:Act) (w:World),AnyK P md ops Q S fuel listed a w->wpAny P md ops Q fuel listed a w
 | 0,_,_,_,h=>h
 | fuel+1,_,_,_,h=>⟨h.1,fun i hi=>wpOp_mono (fun a' w' h'=>Qli fuel _ a' w' h'.2) (h.2 i hi)⟩
theorem Qmq {i:Nat} {oi:Oper} {v:Value} (hi:ops[i]? = some oi) (hsel : ∀ (j:Nat) (o:Oper) cs b,ops[j]? = some o->o.op ≠ .select cs b)
  (hQ : ∀ c a w,Q (.panic c) (a.put oi.dst v) w->Q (.panic c) a w) :
  ∀ (fuel:Nat) (listed:Array Bool) (a:Act) (w:World),
   (∀ j oj,ops[j]? = some oj->j≠i->listed.getD j true=false->(∀ e∈oj.after,Region.binds md e=true->e.on≠i)->oi.apart ops oj=true) ->
   i∈Region.ready md ops listed->YieldsIf P ops S oi v a->S w ->
   AnyK P md ops Q S fuel (listed.setIfInBounds i true) (a.put oi.dst v) w->AnyK P md ops Q S (fuel+1) listed a w:=by
 intro fuel
 induction fuel with
 | zero =>
  intro listed a w _ hr hy hS H
  refine ⟨fun h=>absurd hr (by rw [h];exact List.not_mem_nil),fun j hj => ?_⟩
  by_cases hji:j=i
  ·subst hji
   exact hy.wpOp hi hS ⟨.inr hS,H⟩
  ·exact absurd (ready_mono hj hji) (by rw [H.1];exact List.not_mem_nil)
 | succ fuel ih =>
  intro listed a w hfree hr hy hS H
  refine ⟨fun h=>absurd hr (by rw [h];exact List.not_mem_nil),fun j hj => ?_⟩
  by_cases hji:j=i
  ·subst hji
   exact hy.wpOp hi hS ⟨.inr hS,H⟩
  ·obtain ⟨hjun,oj,hoj,hall⟩:=mem_ready.1 hj
   have hun:listed[i]?.getD true=true->False:=fun h=>by
    have h0:=(mem_ready.1 hr).1
    simp_all
   have hnot : ∀ e∈oj.after,Region.binds md e=true->e.on≠i:=fun e he hb heq=>by
    have h1:=hall e he hb
    have h0:=(mem_ready.1 hr).1
    rw [heq] at h1
    rcases Nat.lt_or_ge i listed.size with h' | h'
    ·simp [h'] at h0 h1
     rw [h0] at h1
     cases h1
    ·simp [Array.getElem?_eq_none h'] at h1
   have hnl : ¬ Qjh md ops j:=fun ⟨o,ho,hw⟩=>by
    have hoo:oj=o:=Option.some.inj (hoj.symm.trans ho)
    subst hoo
    obtain ⟨e,he,hb,hon⟩:=hw i (Array.getElem?_eq_some_iff.1 hi).1 (fun e=>hji e.symm)
    exact hnot e he hb hon
   have h2:=wpOp_putIf hoj (hfree j oj hoj hji hjun hnot) (fun cs b=>hsel i oi cs b hi) (fun cs b=>hsel j oj cs b hoj) hQ hy (H.2 j (ready_mono hj hji))
   refine wpOp_mono (fun a' w' h3 => ?_) h2
   have hS':S w':=h3.2.1.resolve_left hnl
   refine ⟨.inr hS',ih (listed.setIfInBounds j true) a' w' (fun k ok hk hki hun hno=>hfree k ok hk hki ?_ hno) (ready_mono hr (Ne.symm hji)) h3.1 hS' ?_⟩
   ·by_cases hjk:j=k
    ·subst hjk
     exact hjun
    ·rw [getD_set_ne true hjk] at hun
     exact hun
   ·rw [Array.setIfInBounds_comm _ _ hji]
    exact h3.2.2
theorem Zw {i:Nat} {oi:Oper} {v:Value} {fuel:Nat} {listed:Array Bool} {a:Act} {w:World} (hi:ops[i]? = some oi)
  (hs:Region.noSelect ops=true) (hf:Region.free md ops listed i=true) (hr:(Region.ready md ops listed).contains i=true)
  (hQ : ∀ c a w,Q (.panic c) (a.put oi.dst v) w->Q (.panic c) a w) (hy:YieldsIf P ops S oi v a) (hS:S w)
  (h:AnyK P md ops Q S fuel (listed.setIfInBounds i true) (a.put oi.dst v) w):AnyK P md ops Q S (fuel+1) listed a w:=
 Qmq hi (Region.noSelect_spec hs) hQ fuel listed a w (Region.free_spec hi hf) (by simpa using hr) hy hS h
theorem Qp3 {i:Nat} {fuel:Nat} {listed:Array Bool} {a:Act} {w:World} (hr:Region.ready md ops listed=[i])
  (h:wpOp P ops Q i (fun a' w'=>(Qjh md ops i\/S w')/\AnyK P md ops Q S fuel (listed.setIfInBounds i true) a' w') a w):AnyK P md ops Q S (fuel+1) listed a w:=by
 refine ⟨fun h0 => ?_,fun j hj => ?_⟩
 ·rw [hr] at h0
  cases h0
 ·rw [hr] at hj
  rw [List.mem_singleton.1 hj]
  exact h
theorem Qdy {i:Nat} {o:Oper} {fuel:Nat} {listed:Array Bool} {a:Act} {w:World} (hr:Region.ready md ops listed=[i]) (ho:ops[i]? = some o) (hw:Region.wanted o (yielded ops a.tmps)=true)
  (h : ∀ K:Act->World->Prop,(∀ a' w',(Qjh md ops i\/S w')->AnyK P md ops Q S fuel (listed.setIfInBounds i true) a' w'->K a' w')->Oper.wp P o a w K Q):AnyK P md ops Q S (fuel+1) listed a w:=
 Qp3 hr (by
  unfold wpOp
  simp only [ho,hw,if_true]
  exact .inl (h _ fun a' w' h1 h2=>⟨h1,h2⟩))
theorem Qom {listed:Array Bool} {a:Act} {w:World} (hr:Region.ready md ops listed=[]) (h:Q .normal a w) : ∀ fuel,AnyK P md ops Q S fuel listed a w
 | 0=>⟨hr,h⟩
 | _+1=>⟨fun _=>h,by rw [hr];simp⟩
theorem Qks {id:Nat} {a:Act} {w:World} (hm:P.follows .mixedOrders=true)
  (h:AnyK P .any ops Q S ops.size (Array.replicate ops.size false) a { w with drawn:=w.drawn+1 }):(Code.region id ops true).wp P Q a w:=
 wp_region_any hm (Qli _ _ _ _ h)
def Qsb (md:Region.Mode) (ops:Array Oper) (j:Nat):Bool:=
 match ops[j]? with
 | some oj=>(List.range ops.size).all fun i=>decide (i=j) || oj.after.any fun e=>Region.binds md e && decide (e.on=i)
 | none=>false
theorem Qrb {j:Nat} (h:Qsb md ops j=true):Qjh md ops j:=by
 unfold Qsb at h
 split at h
 ·rename_i oj hoj
  refine ⟨oj,hoj,fun i hi hne => ?_⟩
  have h1:=List.all_eq_true.1 h i (List.mem_range.2 hi)
  simp only [Bool.or_eq_true,decide_eq_true_eq,Array.any_eq_true] at h1
  rcases h1 with h1 | ⟨k,hk,h1⟩
  ·exact absurd h1 hne
  ·simp only [Bool.and_eq_true,decide_eq_true_eq] at h1
   exact ⟨_,Array.getElem_mem hk,h1.1,h1.2⟩
 ·cases h
end
end Go.Proofs.YtcooobnaocbdjaaGreatDoor
